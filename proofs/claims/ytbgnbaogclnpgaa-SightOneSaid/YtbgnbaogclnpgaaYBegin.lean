/-
  Begin: walked (stage 9).
-/
import Derived.Test.YtbgnbaogclnpgaaYPush
import Derived.Deep.DeepCutAuto
namespace Go.Proofs.Ytbgnbaogclnpgaa
open Go.RowKit
set_option linter.unusedVariables false

theorem five {P : Nat → Value → Prop} {a b c d e : Value} (h0 : P 0 a) (h1 : P 1 b) (h2 : P 2 c) (h3 : P 3 d) (h4 : P 4 e) : ∀ o v, [a, b, c, d, e][o]? = some v → P o v
  | 0, v, h => by simp at h; subst h; exact h0
  | 1, v, h => by simp at h; subst h; exact h1
  | 2, v, h => by simp at h; subst h; exact h2
  | 3, v, h => by simp at h; subst h; exact h3
  | 4, v, h => by simp at h; subst h; exact h4
  | o + 5, v, h => by simp at h

theorem cells5 {W : World} {g : Nat} {e : TypeId} {v0 v1 v2 v3 v4 : Value} (h : Lit W g e [v0, v1, v2, v3, v4]) : W.cell? ⟨g, 0, none⟩ = some v0 ∧ W.cell? ⟨g, 1, none⟩ = some v1 ∧ W.cell? ⟨g, 2, none⟩ = some v2 ∧ W.cell? ⟨g, 3, none⟩ = some v3 ∧ W.cell? ⟨g, 4, none⟩ = some v4 :=
  ⟨h.cell rfl, h.cell rfl, h.cell rfl, h.cell rfl, h.cell rfl⟩

/-- What stands ahead of Begin's last region, and what it makes. -/
theorem push_ready {w W : World} {t g n : Nat} {a : Option Addr} {c : Nat} {last : Int} {f : Nat → List Value} {F : Nat → Prop} {v0 v1 v2 v3 v4 : Value} (h : Raw W t (.slice a n c) n last f F) (hF : ∀ k, F k → k < w.heap.size) (ht : Touch F w W)
    (hg : Lit W g 81 [v0, v1, v2, v3, v4]) (hgF : ¬ F g) (h1 : ∀ v ∈ [v0, v1, v2, v3, v4], v.oneCell' = true) (hn : n ≤ 100000) :
    ∃ a' c' W6 F', (∀ ty, (Builtin.append_ #[76, 76] ty #[.slice a n c, .slice (some ⟨W.heap.size, 0, none⟩) 1 1]).run Try.prog (W.drew.alloc (.cells #[v0, v1, v2, v3, v4] 81)) = .ok (.slice a' (n + 1) c') W6) ∧
      (∀ W', Lit W' t 78 [.slice a n c, .int .i64 last] → Lit W' g 81 [v0, v1, v2, v3, v4] → W'.cell? ⟨t, 0, none⟩ = some (.slice a n c) ∧ W'.cell? ⟨g, 0, none⟩ = some v0 ∧ W'.cell? ⟨g, 1, none⟩ = some v1 ∧ W'.cell? ⟨g, 2, none⟩ = some v2 ∧ W'.cell? ⟨g, 3, none⟩ = some v3 ∧ W'.cell? ⟨g, 4, none⟩ = some v4) ∧
      Lit W.drew t 78 [.slice a n c, .int .i64 last] ∧ Lit W.drew g 81 [v0, v1, v2, v3, v4] ∧
      Lit (W.drew.alloc (.cells #[v0, v1, v2, v3, v4] 81)) t 78 [.slice a n c, .int .i64 last] ∧ Lit (W.drew.alloc (.cells #[v0, v1, v2, v3, v4] 81)) g 81 [v0, v1, v2, v3, v4] ∧
      Lit W6 t 78 [.slice a n c, .int .i64 last] ∧ Lit W6 g 81 [v0, v1, v2, v3, v4] ∧
      Raw (W6.setCell ⟨t, 0, none⟩ (.slice a' (n + 1) c')) t (.slice a' (n + 1) c') (n + 1) last (fun j => if j < n then f j else [v0, v1, v2, v3, v4]) F' ∧ (∀ k, F' k → F k ∨ w.heap.size ≤ k) ∧ Touch F w (W6.setCell ⟨t, 0, none⟩ (.slice a' (n + 1) c')) := by
  obtain ⟨a', c', W6, F', hrun, hl, hraw, hF', htou, hkeep⟩ := h.drew.push [v0, v1, v2, v3, v4] rfl h1 hn
  have hsz := ht.size
  have hgd : Lit W.drew g 81 [v0, v1, v2, v3, v4] := hg
  have hal := Below.allocs W.drew (.cells #[v0, v1, v2, v3, v4] 81)
  refine ⟨a', c', W6, F', hrun, fun W' h1 h2 => ⟨h1.cell rfl, cells5 h2⟩, h.drew.lit, hgd, h.drew.lit.below hal, hgd.below hal, hl, (hkeep g hgd.lt hgF).trans hgd, hraw, fun k hk => (hF' k hk).imp id (fun hx => ?_), (ht.trans (Touch.of_below (below_drw W)) (fun _ _ hk => hk) : Touch F w W.drew).trans htou (fun _ _ hk => hk)⟩
  exact Nat.le_trans hsz hx

set_option maxRecDepth 100000 in
set_option maxHeartbeats 4000000 in
theorem begin_zero (w : World) (t : Nat) (T : Tb) (F : Nat → Prop) (hs : T.n ≤ 100000) (h : Is w t T F) :
    Calls Try.prog 10 #[ptrV t, .int .i64 0] w fun e w' => ∃ F', e = .returned (.tuple #[.int .i64 ((T.n : Int) + 1), .int .i64 0]) ∧ Is w' t (T.add 0) F' ∧ (∀ k, F' k → F k ∨ w.heap.size ≤ k) ∧ Touch F w w' := by
  have mixed : Try.prog.follows Departure.mixedOrders = true := by kernel_rfl
  obtain ⟨s, hraw⟩ := h.tab.raw
  obtain ⟨n, hn⟩ : ∃ n, T.n = n := ⟨_, rfl⟩
  obtain ⟨a, c, e, _, _⟩ := hraw.row.form
  rw [hn] at hraw hs e
  subst e
  obtain ⟨W, hW⟩ : ∃ W, w.alloc (.cells #[.int .u8 1, .int .i64 ((n : Int) + 1), .int .i64 0, .int .i64 0, .int .i64 0] 81) = W := ⟨_, rfl⟩
  obtain ⟨g, hg⟩ : ∃ g, w.heap.size = g := ⟨_, rfl⟩
  have hb : Below w.heap.size w W := by rw [← hW]; exact Below.allocs _ _
  have hl : Lit W g 81 [.int .u8 1, .int .i64 ((n : Int) + 1), .int .i64 0, .int .i64 0, .int .i64 0] := by rw [← hW, ← hg]; exact Lit.new w _ _
  have hlt := hraw.lt
  obtain ⟨a', c', W6, F', hrun, hC, l1, l2, l3, l4, l5, l6, hend, hF', htou⟩ := push_ready (w := w) (hraw.below hb) hlt (Touch.of_below hb) hl (fun hx => by have := hlt g hx; omega) (by simp [Value.oneCell']) hs
  have HS0 := Lib.hid (hC _ l1 l2)
  have HS1 := Lib.hid (hC _ l3 l4)
  have HS2 := Lib.hid (hC _ l5 l6)
  have HRUN := Lib.hid hrun
  have hT : Is (W6.setCell ⟨t, 0, none⟩ (.slice a' (n + 1) c')) t (T.add 0) F' := by
    refine hend.is (by show T.n + 1 = _; rw [hn]) rfl (h.ok.add (Nat.zero_le _) (fun h => absurd rfl h)) fun j hj => ?_
    unfold recT Tb.add
    simp only [hn, upd, if_true]
    by_cases hjn : j < n
    · simp only [if_pos hjn, if_neg (show ¬ j + 1 = n + 1 by omega)]
    · obtain rfl : j = n := by omega
      simp only [if_neg (Nat.lt_irrefl _), if_true]
      simp
  have HEND := Lib.hid hT
  have HF := Lib.hid hF'
  have HT := Lib.hid htou
  have c0 := l5.cell (o := 0) rfl
  have f0 := l5.fz 0
  have cw0 := hraw.lit.cell (o := 0) rfl
  have HC0 : Hid (W6.cell? ⟨t, 0, none⟩ = some (.slice a n c) ∧ W6.frozen? ⟨t, 0, none⟩ = false) := Lib.hid ⟨c0, f0⟩
  have hwr : wrap64 ((n : Int) + 1) = (n : Int) + 1 := wr (by omega)
  unfold ptrV
  rw [hn]
  have HW := Lib.hid hW
  have HG := Lib.hid hg
  clear h hraw hb hl hlt hrun hC l1 l2 l3 l4 l5 l6 hend hF' htou hT c0 f0 hW hg
  go_enter Try.func10, Try.ntmps10
  go_upto_region 12 with (fail)
  rw [HW.out, HG.out]
  refine RX.wp_region_lastH 8 (fun W => W.cell? ⟨t, 0, none⟩ = some (.slice a n c) ∧ W.cell? ⟨g, 0, none⟩ = some (.int .u8 1) ∧ W.cell? ⟨g, 1, none⟩ = some (.int .i64 ((n : Int) + 1)) ∧ W.cell? ⟨g, 2, none⟩ = some (.int .i64 0) ∧ W.cell? ⟨g, 3, none⟩ = some (.int .i64 0) ∧ W.cell? ⟨g, 4, none⟩ = some (.int .i64 0)) mixed (by kernel_rfl) ?_
  simp only [List.take_succ_cons, List.take_zero, List.drop_succ_cons, List.drop_zero]
  refine wpAnyH_take (i := 0) (oi := _) (v := .pointer (some ⟨t, 0, none⟩)) rfl (by kernel_rfl) (by kernel_rfl) (by kernel_rfl) (fun _ _ _ h => h) (Or.inl ⟨by rfl, fun w' hw' => ?_⟩) (HS0.out) ?_
  · obtain ⟨j0, j1, j2, j3, j4, j5⟩ := hw'
    go_simp
    try first | with_reducible rfl | simp
  refine wpAnyH_take (i := 1) (oi := _) (v := .pointer (some ⟨t, 0, none⟩)) rfl (by kernel_rfl) (by kernel_rfl) (by kernel_rfl) (fun _ _ _ h => h) (Or.inl ⟨by rfl, fun w' hw' => ?_⟩) (HS0.out) ?_
  · obtain ⟨j0, j1, j2, j3, j4, j5⟩ := hw'
    go_simp
    try first | with_reducible rfl | simp
  refine wpAnyH_take (i := 2) (oi := _) (v := .pointer (some ⟨t, 0, none⟩)) rfl (by kernel_rfl) (by kernel_rfl) (by kernel_rfl) (fun _ _ _ h => h) (Or.inl ⟨by rfl, fun w' hw' => ?_⟩) (HS0.out) ?_
  · obtain ⟨j0, j1, j2, j3, j4, j5⟩ := hw'
    go_simp
    try first | with_reducible rfl | simp
  refine wpAnyH_take (i := 3) (oi := _) (v := .pointer (some ⟨t, 0, none⟩)) rfl (by kernel_rfl) (by kernel_rfl) (by kernel_rfl) (fun _ _ _ h => h) (Or.inl ⟨by rfl, fun w' hw' => ?_⟩) (HS0.out) ?_
  · obtain ⟨j0, j1, j2, j3, j4, j5⟩ := hw'
    go_simp
    try first | with_reducible rfl | simp
  refine wpAnyH_take (i := 4) (oi := _) (v := .slice a n c) rfl (by kernel_rfl) (by kernel_rfl) (by kernel_rfl) (fun _ _ _ h => h) (Or.inl ⟨by rfl, fun w' hw' => ?_⟩) (HS0.out) ?_
  · obtain ⟨j0, j1, j2, j3, j4, j5⟩ := hw'
    go_simp
    try first | with_reducible rfl | simp
  refine wpAnyH_take (i := 5) (oi := _) (v := .agg #[.int .u8 1, .int .i64 ((n : Int) + 1), .int .i64 0, .int .i64 0, .int .i64 0]) rfl (by kernel_rfl) (by kernel_rfl) (by kernel_rfl) (fun _ _ _ h => h) (Or.inl ⟨by rfl, fun w' hw' => ?_⟩) (HS0.out) ?_
  · obtain ⟨j0, j1, j2, j3, j4, j5⟩ := hw'
    go_simp
    try first | with_reducible rfl | simp
  refine RX.anyH_val (i := 6) (v := .slice (some ⟨W.heap.size, 0, none⟩) 1 1) (w' := W.drew.alloc (.cells #[.int .u8 1, .int .i64 ((n : Int) + 1), .int .i64 0, .int .i64 0, .int .i64 0] 81)) (by kernel_rfl) rfl (by rfl) (by go_simp) (HS1.out) ?_
  refine RX.anyH_app (i := 7) (v := .slice a n c) (u := .slice (some ⟨W.heap.size, 0, none⟩) 1 1) (.tmp 53) (.tmp 55) (76) (76) (by kernel_rfl) rfl (by rfl) rfl (by go_simp) (by go_simp) (HRUN.out _) (HS2.out) ?_
  refine wpAnyH_done (by kernel_rfl) ?_ _
  unfold RX.lastQ
  obtain ⟨c0, f0⟩ := HC0.out
  clear cw0
  go_wp2_with fail
  go_ret2
  exact ⟨F', rfl, HEND.out, HF.out, HT.out⟩

/-- What stands ahead of Begin's writes below a parent, and what comes of them. -/
theorem begin_ready {w w1 : World} {t g n k : Nat} {a : Option Addr} {c : Nat} {T : Tb} {F : Nat → Prop} {tp yp : Int} (hok : T.Ok) (hn : T.n = n) (hs : n ≤ 100000) (hk : k < n) (hst : T.st (k + 1) = 1) (htp : (T.top (k + 1) : Int) = tp) (hyp : (T.y (k + 1) : Int) = yp)
    (h : Raw w1 t (.slice a n c) n T.last (recT T) F) (hlt : ∀ k, F k → k < w.heap.size) (hb : Below w.heap.size w w1) (hgw : w.heap.size ≤ g) (hl : Lit w1 g 81 [.int .u8 1, .int .i64 ((n : Int) + 1), .int .i64 0, .int .i64 0, .int .i64 0]) :
    ∃ b, a = some ⟨b, 0, none⟩ ∧ t < w1.heap.size ∧ b < w1.heap.size ∧ g < w1.heap.size ∧ g ≠ t ∧ g ≠ b ∧ b ≠ t ∧ w1.cell? ⟨t, 0, none⟩ = some (.slice (some ⟨b, 0, none⟩) n c) ∧ w1.cell? ⟨b, k * 5 + 1, none⟩ = some (.int .i64 tp) ∧ w1.cell? ⟨b, k * 5 + 3, none⟩ = some (.int .i64 yp) ∧ (∀ o, w1.frozen? ⟨b, o, none⟩ = false) ∧ (∀ o, w1.frozen? ⟨g, o, none⟩ = false) ∧
      w1.cell? ⟨g, 1, none⟩ = some (.int .i64 ((n : Int) + 1)) ∧ w1.cell? ⟨g, 4, none⟩ = some (.int .i64 0) ∧
      (((w1.setCell ⟨g, 1, none⟩ (.int .i64 tp)).setCell ⟨g, 4, none⟩ (.int .i64 yp)).cell? ⟨b, k * 5 + 3, none⟩ = some (.int .i64 yp) ∧ ((w1.setCell ⟨g, 1, none⟩ (.int .i64 tp)).setCell ⟨g, 4, none⟩ (.int .i64 yp)).frozen? ⟨b, k * 5 + 3, none⟩ = false ∧ ((w1.setCell ⟨g, 1, none⟩ (.int .i64 tp)).setCell ⟨g, 4, none⟩ (.int .i64 yp)).cell? ⟨t, 0, none⟩ = some (.slice (some ⟨b, 0, none⟩) n c)) ∧
      ∃ a' c' W6 F', (∀ ty, (Builtin.append_ #[76, 76] ty #[.slice (some ⟨b, 0, none⟩) n c, .slice (some ⟨(((w1.setCell ⟨g, 1, none⟩ (.int .i64 tp)).setCell ⟨g, 4, none⟩ (.int .i64 yp)).setCell ⟨b, k * 5 + 3, none⟩ (.int .i64 ((n : Int) + 1))).heap.size, 0, none⟩) 1 1]).run Try.prog ((((w1.setCell ⟨g, 1, none⟩ (.int .i64 tp)).setCell ⟨g, 4, none⟩ (.int .i64 yp)).setCell ⟨b, k * 5 + 3, none⟩ (.int .i64 ((n : Int) + 1))).drew.alloc (.cells #[.int .u8 1, .int .i64 tp, .int .i64 0, .int .i64 0, .int .i64 yp] 81)) = .ok (.slice a' (n + 1) c') W6) ∧
      (∀ W', Lit W' t 78 [.slice (some ⟨b, 0, none⟩) n c, .int .i64 T.last] → Lit W' g 81 [.int .u8 1, .int .i64 tp, .int .i64 0, .int .i64 0, .int .i64 yp] → W'.cell? ⟨t, 0, none⟩ = some (.slice (some ⟨b, 0, none⟩) n c) ∧ W'.cell? ⟨g, 0, none⟩ = some (.int .u8 1) ∧ W'.cell? ⟨g, 1, none⟩ = some (.int .i64 tp) ∧ W'.cell? ⟨g, 2, none⟩ = some (.int .i64 0) ∧ W'.cell? ⟨g, 3, none⟩ = some (.int .i64 0) ∧ W'.cell? ⟨g, 4, none⟩ = some (.int .i64 yp)) ∧
      Lit (((w1.setCell ⟨g, 1, none⟩ (.int .i64 tp)).setCell ⟨g, 4, none⟩ (.int .i64 yp)).setCell ⟨b, k * 5 + 3, none⟩ (.int .i64 ((n : Int) + 1))).drew t 78 [.slice (some ⟨b, 0, none⟩) n c, .int .i64 T.last] ∧ Lit (((w1.setCell ⟨g, 1, none⟩ (.int .i64 tp)).setCell ⟨g, 4, none⟩ (.int .i64 yp)).setCell ⟨b, k * 5 + 3, none⟩ (.int .i64 ((n : Int) + 1))).drew g 81 [.int .u8 1, .int .i64 tp, .int .i64 0, .int .i64 0, .int .i64 yp] ∧
      Lit ((((w1.setCell ⟨g, 1, none⟩ (.int .i64 tp)).setCell ⟨g, 4, none⟩ (.int .i64 yp)).setCell ⟨b, k * 5 + 3, none⟩ (.int .i64 ((n : Int) + 1))).drew.alloc (.cells #[.int .u8 1, .int .i64 tp, .int .i64 0, .int .i64 0, .int .i64 yp] 81)) t 78 [.slice (some ⟨b, 0, none⟩) n c, .int .i64 T.last] ∧ Lit ((((w1.setCell ⟨g, 1, none⟩ (.int .i64 tp)).setCell ⟨g, 4, none⟩ (.int .i64 yp)).setCell ⟨b, k * 5 + 3, none⟩ (.int .i64 ((n : Int) + 1))).drew.alloc (.cells #[.int .u8 1, .int .i64 tp, .int .i64 0, .int .i64 0, .int .i64 yp] 81)) g 81 [.int .u8 1, .int .i64 tp, .int .i64 0, .int .i64 0, .int .i64 yp] ∧
      Lit W6 t 78 [.slice (some ⟨b, 0, none⟩) n c, .int .i64 T.last] ∧ Lit W6 g 81 [.int .u8 1, .int .i64 tp, .int .i64 0, .int .i64 0, .int .i64 yp] ∧
      Is (W6.setCell ⟨t, 0, none⟩ (.slice a' (n + 1) c')) t (T.add (k + 1)) F' ∧ (∀ k, F' k → F k ∨ w.heap.size ≤ k) ∧ Touch F w (W6.setCell ⟨t, 0, none⟩ (.slice a' (n + 1) c')) := by
  obtain ⟨b, c', e, hnc, hcm, hbl, hat, hfz⟩ := h.row.at hk
  simp only [Value.slice.injEq, true_and] at e
  obtain ⟨rfl, rfl⟩ := e
  have q1 := hat k hk 1 (.int .i64 tp) (by rw [← htp]; rfl)
  have q3 := hat k hk 3 (.int .i64 yp) (by rw [← hyp]; rfl)
  have hbt := h.own b rfl
  have hFg : ¬ F g := fun hx => by have := hlt g hx; omega
  have hgt : g ≠ t := fun e => hFg (by rw [e]; exact h.ft)
  have hgb : g ≠ b := fun e => hFg (by rw [e]; exact hbt.1)
  have htl := h.lit.lt
  have hgl := hl.lt
  have hfg := hl.fz
  have g1 := hl.cell (o := 1) rfl
  have g4 := hl.cell (o := 4) rfl
  have c0 := h.lit.cell (o := 0) rfl
  have hl3 : Lit ((w1.setCell ⟨g, 1, none⟩ (.int .i64 tp)).setCell ⟨g, 4, none⟩ (.int .i64 yp)) g 81 [.int .u8 1, .int .i64 tp, .int .i64 0, .int .i64 0, .int .i64 yp] := (hl.set 1 _).set 4 _
  have t23 : Touch (fun k => k = g) w1 ((w1.setCell ⟨g, 1, none⟩ (.int .i64 tp)).setCell ⟨g, 4, none⟩ (.int .i64 yp)) := (Touch.setCell _ (F := fun k => k = g) rfl _ _).trans (Touch.setCell _ (F := fun k => k = g) rfl _ _) (fun _ _ h => h)
  have hr3 := h.stay (t23.stay (G := F) (fun k hk hx => hFg (by rw [← hx]; exact hk)))
  obtain ⟨hr4, t4⟩ := hr3.set (b := b) rfl hk (show 3 < 5 by omega) rfl (.int .i64 ((n : Int) + 1))
  have tw3 : Touch F w ((w1.setCell ⟨g, 1, none⟩ (.int .i64 tp)).setCell ⟨g, 4, none⟩ (.int .i64 yp)) := (Touch.of_below hb).trans t23 (fun k hk hx => by omega)
  have tw4 : Touch F w (((w1.setCell ⟨g, 1, none⟩ (.int .i64 tp)).setCell ⟨g, 4, none⟩ (.int .i64 yp)).setCell ⟨b, k * 5 + 3, none⟩ (.int .i64 ((n : Int) + 1))) := tw3.trans t4 (fun _ _ h => h)
  have hl4 : Lit (((w1.setCell ⟨g, 1, none⟩ (.int .i64 tp)).setCell ⟨g, 4, none⟩ (.int .i64 yp)).setCell ⟨b, k * 5 + 3, none⟩ (.int .i64 ((n : Int) + 1))) g 81 [.int .u8 1, .int .i64 tp, .int .i64 0, .int .i64 0, .int .i64 yp] := hl3.stay (t4.stay (G := fun k => k = g) (fun k hk hx => hFg (by rw [← hk]; exact hx))) rfl
  have d3 : ((w1.setCell ⟨g, 1, none⟩ (.int .i64 tp)).setCell ⟨g, 4, none⟩ (.int .i64 yp)).cell? ⟨b, k * 5 + 3, none⟩ = some (.int .i64 yp) ∧ ((w1.setCell ⟨g, 1, none⟩ (.int .i64 tp)).setCell ⟨g, 4, none⟩ (.int .i64 yp)).frozen? ⟨b, k * 5 + 3, none⟩ = false ∧ ((w1.setCell ⟨g, 1, none⟩ (.int .i64 tp)).setCell ⟨g, 4, none⟩ (.int .i64 yp)).cell? ⟨t, 0, none⟩ = some (.slice (some ⟨b, 0, none⟩) n c) := by
    obtain ⟨b', c', e, _, _, _, hat, hfz⟩ := hr3.row.at hk
    cases e
    exact ⟨hat k hk 3 (.int .i64 yp) (by rw [← hyp]; rfl), hfz _, hr3.lit.cell (o := 0) rfl⟩
  obtain ⟨a', cc, W6, F', hrun, hC, l1, l2, l3, l4, l5, l6, hend, hF', htou⟩ := push_ready (w := w) hr4 hlt tw4 hl4 hFg (by simp [Value.oneCell']) hs
  refine ⟨b, rfl, htl, hbl, hgl, hgt, hgb, hbt.2.symm |> Ne.symm, c0, q1, q3, hfz, hfg, g1, g4, d3, a', cc, W6, F', hrun, hC, l1, l2, l3, l4, l5, l6, ?_, hF', htou⟩
  refine hend.is (by show T.n + 1 = _; rw [hn]) rfl (hok.add (by omega) (fun _ => hst)) fun j hj => ?_
  unfold recT Tb.add updR
  simp only [hn, upd, if_neg (show ¬ k + 1 = 0 by omega)]
  by_cases hjn : j < n
  · simp only [if_pos hjn, if_neg (show ¬ j + 1 = n + 1 by omega)]
    by_cases hjk : j = k
    · subst hjk
      simp only [if_true]
      simp [List.set]
    · simp only [if_neg hjk, if_neg (show ¬ j + 1 = k + 1 by omega)]
  · obtain rfl : j = n := by omega
    simp only [if_neg (Nat.lt_irrefl _), if_true]
    rw [htp, hyp]
    simp

set_option maxRecDepth 100000 in
set_option maxHeartbeats 4000000 in
theorem begin_ok (w : World) (t : Nat) (T : Tb) (F : Nat → Prop) (hs : T.n ≤ 100000) (k : Nat) (hk : k < T.n) (hst : T.st (k + 1) = 1) (h : Is w t T F) :
    Calls Try.prog 10 #[ptrV t, .int .i64 ((k : Int) + 1)] w fun e w' => ∃ F', e = .returned (.tuple #[.int .i64 ((T.n : Int) + 1), .int .i64 0]) ∧ Is w' t (T.add (k + 1)) F' ∧ (∀ k, F' k → F k ∨ w.heap.size ≤ k) ∧ Touch F w w' := by
  have mixed : Try.prog.follows Departure.mixedOrders = true := by kernel_rfl
  obtain ⟨s, hraw⟩ := h.tab.raw
  obtain ⟨n, hn⟩ : ∃ n, T.n = n := ⟨_, rfl⟩
  obtain ⟨tp, htp⟩ : ∃ tp : Int, (T.top (k + 1) : Int) = tp := ⟨_, rfl⟩
  obtain ⟨yp, hyp⟩ : ∃ yp : Int, (T.y (k + 1) : Int) = yp := ⟨_, rfl⟩
  obtain ⟨W, hW⟩ : ∃ W, w.alloc (.cells #[.int .u8 1, .int .i64 ((n : Int) + 1), .int .i64 0, .int .i64 0, .int .i64 0] 81) = W := ⟨_, rfl⟩
  obtain ⟨g, hg⟩ : ∃ g, w.heap.size = g := ⟨_, rfl⟩
  have hb : Below w.heap.size w W := by rw [← hW]; exact Below.allocs _ _
  have hl : Lit W g 81 [.int .u8 1, .int .i64 ((n : Int) + 1), .int .i64 0, .int .i64 0, .int .i64 0] := by rw [← hW, ← hg]; exact Lit.new w _ _
  have hlt := hraw.lt
  have hrunning := running_is W t T F ((k : Int) + 1) (by unfold I64; omega) (h.below hb)
  have herr : T.err ((k : Int) + 1) = 0 := by
    unfold Tb.err
    rw [if_pos (by omega), if_pos (by rw [show ((k : Int) + 1).toNat = k + 1 by omega]; exact hst)]
  rw [herr] at hrunning
  have cw0 : ∃ a c, s = .slice a n c ∧ w.cell? ⟨t, 0, none⟩ = some (.slice a n c) := by
    obtain ⟨a, c, e, _, _⟩ := hraw.row.form
    rw [hn] at e
    exact ⟨a, c, e, by rw [← e]; exact hraw.lit.cell (o := 0) rfl⟩
  obtain ⟨a, c, rfl, cw⟩ := cw0
  rw [hn] at hs hk hraw
  unfold ptrV at hrunning ⊢
  have hwt : t < w.heap.size := hlt t h.ft
  have HREADY : Hid (∀ w1, Below W.heap.size W w1 → _) := Lib.hid (fun w1 (hb1 : Below W.heap.size W w1) => begin_ready (w := w) (w1 := w1) (g := g) h.ok hn hs hk hst htp hyp ((hraw.below hb).below hb1) hlt (below_tr hb hb1) (Nat.le_of_eq hg) (hl.below hb1))
  have HRN := Lib.hid hrunning
  have HW := Lib.hid hW
  have HG := Lib.hid hg
  have hwr : wrap64 ((n : Int) + 1) = (n : Int) + 1 := wr (by omega)
  have hp0 : ¬ ((k : Int) + 1 = 0) := by omega
  rw [hn]
  clear h hraw hrunning hb hl hlt herr hW hg htp hyp hst
  go_enter Try.func10, Try.ntmps10
  go_wp2_with (fail)
  rw [HW.out, HG.out]
  refine HRN.out.mono ?_
  rintro e w1 ⟨rfl, hb1⟩
  obtain ⟨b, rfl, htl, hbl, hgl, hgt, hgb, hbt, c0, q1, q3, hfb, hfg, g1, g4, d3, a', cc, W6, F', hrun, hC, l1, l2, l3, l4, l5, l6, hT, hF', htou⟩ := HREADY.out w1.drew (below_tr hb1 (below_drw w1))
  have HS0 := Lib.hid (hC _ l1 l2)
  have HS1 := Lib.hid (hC _ l3 l4)
  have HS2 := Lib.hid (hC _ l5 l6)
  have HRUN := Lib.hid hrun
  have HEND := Lib.hid hT
  have HF := Lib.hid hF'
  have HT := Lib.hid htou
  have HC0 : Hid (W6.cell? ⟨t, 0, none⟩ = some (.slice (some ⟨b, 0, none⟩) n c) ∧ W6.frozen? ⟨t, 0, none⟩ = false) := Lib.hid ⟨l5.cell (o := 0) rfl, l5.fz 0⟩
  have HC3 := Lib.hid d3
  have hkw : wrap64 (k : Int) = k := wr (by omega)
  have hkn : (k : Int) < n := by omega
  have hk0 : (0 : Int) ≤ k := by omega
  have f3 := hfb (k * 5 + 3)
  have fg1 := hfg 1
  have fg4 := hfg 4
  clear hrun hC l1 l2 l3 l4 l5 l6 hT hF' htou hb1 d3 HREADY HRN HW HG hfb hfg cw hwt
  have HD := Lib.hid (And.intro htl (And.intro hbl (And.intro hgl (And.intro c0 (And.intro q1 (And.intro q3 (And.intro f3 (And.intro fg1 (And.intro fg4 (And.intro g1 g4))))))))))
  have e0 : w1.cell? ⟨t, 0, none⟩ = some (.slice (some ⟨b, 0, none⟩) n c) := c0
  have HQ0 : Hid (w1.drew.cell? ⟨b, k * 5 + 1, none⟩ = some (.int .i64 tp) ∧ w1.drew.cell? ⟨b, k * 5 + 3, none⟩ = some (.int .i64 yp)) := Lib.hid ⟨q1, q3⟩
  have HQ1 : Hid ((w1.drew.setCell ⟨g, 1, none⟩ (.int .i64 tp)).cell? ⟨b, k * 5 + 1, none⟩ = some (.int .i64 tp) ∧ (w1.drew.setCell ⟨g, 1, none⟩ (.int .i64 tp)).cell? ⟨b, k * 5 + 3, none⟩ = some (.int .i64 yp)) := Lib.hid (by
    constructor
    · rw [World.cell?_setCell_other _ _ _ _ (fun e => hgb (congrArg Addr.block e))]; exact q1
    · rw [World.cell?_setCell_other _ _ _ _ (fun e => hgb (congrArg Addr.block e))]; exact q3)
  clear htl hbl hgl c0 q1 q3 f3 fg1 fg4 g1 g4
  go_upto_region 10 with (fail)
  obtain ⟨htl, hbl, hgl, c0, q1, q3, f3, fg1, fg4, g1, g4⟩ := HD.out
  refine RX.wp_region_lastH 10 (fun W => W.cell? ⟨b, k * 5 + 1, none⟩ = some (.int .i64 tp) ∧ W.cell? ⟨b, k * 5 + 3, none⟩ = some (.int .i64 yp)) mixed (by kernel_rfl) ?_
  simp only [List.take_succ_cons, List.take_zero, List.drop_succ_cons, List.drop_zero]
  refine wpAnyH_take (i := 0) (oi := _) (v := .pointer (some ⟨b, k * 5, none⟩)) rfl (by kernel_rfl) (by kernel_rfl) (by kernel_rfl) (fun _ _ _ h => h) (Or.inl ⟨by rfl, fun w' hw' => ?_⟩) (HQ0.out) ?_
  · obtain ⟨j1, j3⟩ := hw'
    go_simp
    try first | with_reducible rfl | simp
  refine wpAnyH_take (i := 1) (oi := _) (v := .pointer (some ⟨b, k * 5, none⟩)) rfl (by kernel_rfl) (by kernel_rfl) (by kernel_rfl) (fun _ _ _ h => h) (Or.inl ⟨by rfl, fun w' hw' => ?_⟩) (HQ0.out) ?_
  · obtain ⟨j1, j3⟩ := hw'
    go_simp
    try first | with_reducible rfl | simp
  refine wpAnyH_take (i := 2) (oi := _) (v := .pointer (some ⟨b, k * 5 + 1, none⟩)) rfl (by kernel_rfl) (by kernel_rfl) (by kernel_rfl) (fun _ _ _ h => h) (Or.inl ⟨by rfl, fun w' hw' => ?_⟩) (HQ0.out) ?_
  · obtain ⟨j1, j3⟩ := hw'
    go_simp
    try first | with_reducible rfl | simp
  refine wpAnyH_take (i := 3) (oi := _) (v := .int .i64 tp) rfl (by kernel_rfl) (by kernel_rfl) (by kernel_rfl) (fun _ _ _ h => h) (Or.inl ⟨by rfl, fun w' hw' => ?_⟩) (HQ0.out) ?_
  · obtain ⟨j1, j3⟩ := hw'
    go_simp
    try first | with_reducible rfl | simp
  refine wpAnyH_take (i := 4) (oi := _) (v := .pointer (some ⟨b, k * 5, none⟩)) rfl (by kernel_rfl) (by kernel_rfl) (by kernel_rfl) (fun _ _ _ h => h) (Or.inl ⟨by rfl, fun w' hw' => ?_⟩) (HQ0.out) ?_
  · obtain ⟨j1, j3⟩ := hw'
    go_simp
    try first | with_reducible rfl | simp
  refine wpAnyH_take (i := 5) (oi := _) (v := .pointer (some ⟨b, k * 5, none⟩)) rfl (by kernel_rfl) (by kernel_rfl) (by kernel_rfl) (fun _ _ _ h => h) (Or.inl ⟨by rfl, fun w' hw' => ?_⟩) (HQ0.out) ?_
  · obtain ⟨j1, j3⟩ := hw'
    go_simp
    try first | with_reducible rfl | simp
  refine wpAnyH_take (i := 6) (oi := _) (v := .pointer (some ⟨b, k * 5 + 3, none⟩)) rfl (by kernel_rfl) (by kernel_rfl) (by kernel_rfl) (fun _ _ _ h => h) (Or.inl ⟨by rfl, fun w' hw' => ?_⟩) (HQ0.out) ?_
  · obtain ⟨j1, j3⟩ := hw'
    go_simp
    try first | with_reducible rfl | simp
  refine wpAnyH_take (i := 7) (oi := _) (v := .int .i64 yp) rfl (by kernel_rfl) (by kernel_rfl) (by kernel_rfl) (fun _ _ _ h => h) (Or.inl ⟨by rfl, fun w' hw' => ?_⟩) (HQ0.out) ?_
  · obtain ⟨j1, j3⟩ := hw'
    go_simp
    try first | with_reducible rfl | simp
  refine wpAnyH_take (i := 8) (oi := _) (v := .pointer (some ⟨g, 1, none⟩)) rfl (by kernel_rfl) (by kernel_rfl) (by kernel_rfl) (fun _ _ _ h => h) (Or.inl ⟨by rfl, fun w' hw' => ?_⟩) (HQ0.out) ?_
  · obtain ⟨j1, j3⟩ := hw'
    go_simp
    try first | with_reducible rfl | simp
  refine RX.anyH_skip (i := 9) (w' := w1.drew.setCell ⟨g, 1, none⟩ (.int .i64 tp)) (by kernel_rfl) rfl rfl (by rfl) (by go_simp) HQ1.out ?_
  refine wpAnyH_done (by kernel_rfl) ?_ _
  unfold RX.lastQ
  clear e0 htl hbl hgl c0 q1 q3 f3 fg1 fg4 g1 g4 HQ0 HQ1
  obtain ⟨htl, hbl, hgl, c0, q1, q3, f3, fg1, fg4, g1, g4⟩ := HD.out
  clear HD
  generalize w1.drew = W1 at *
  have HQ := Lib.hid (And.intro c0 (And.intro q1 q3))
  clear c0 q1 q3 hbl
  go_upto_region 11 with (fail)
  obtain ⟨d3, d4, d5⟩ := HC3.out
  go_upto_region 12 with (fail)
  clear d3 d4 d5 f3 fg1 fg4 g1 g4 HQ
  refine RX.wp_region_lastH 8 (fun W => W.cell? ⟨t, 0, none⟩ = some (.slice (some ⟨b, 0, none⟩) n c) ∧ W.cell? ⟨g, 0, none⟩ = some (.int .u8 1) ∧ W.cell? ⟨g, 1, none⟩ = some (.int .i64 tp) ∧ W.cell? ⟨g, 2, none⟩ = some (.int .i64 0) ∧ W.cell? ⟨g, 3, none⟩ = some (.int .i64 0) ∧ W.cell? ⟨g, 4, none⟩ = some (.int .i64 yp)) mixed (by kernel_rfl) ?_
  simp only [List.take_succ_cons, List.take_zero, List.drop_succ_cons, List.drop_zero]
  refine wpAnyH_take (i := 0) (oi := _) (v := .pointer (some ⟨t, 0, none⟩)) rfl (by kernel_rfl) (by kernel_rfl) (by kernel_rfl) (fun _ _ _ h => h) (Or.inl ⟨by rfl, fun w' hw' => ?_⟩) (HS0.out) ?_
  · obtain ⟨j0, j1, j2, j3, j4, j5⟩ := hw'
    go_simp
    try first | with_reducible rfl | simp
  refine wpAnyH_take (i := 1) (oi := _) (v := .pointer (some ⟨t, 0, none⟩)) rfl (by kernel_rfl) (by kernel_rfl) (by kernel_rfl) (fun _ _ _ h => h) (Or.inl ⟨by rfl, fun w' hw' => ?_⟩) (HS0.out) ?_
  · obtain ⟨j0, j1, j2, j3, j4, j5⟩ := hw'
    go_simp
    try first | with_reducible rfl | simp
  refine wpAnyH_take (i := 2) (oi := _) (v := .pointer (some ⟨t, 0, none⟩)) rfl (by kernel_rfl) (by kernel_rfl) (by kernel_rfl) (fun _ _ _ h => h) (Or.inl ⟨by rfl, fun w' hw' => ?_⟩) (HS0.out) ?_
  · obtain ⟨j0, j1, j2, j3, j4, j5⟩ := hw'
    go_simp
    try first | with_reducible rfl | simp
  refine wpAnyH_take (i := 3) (oi := _) (v := .pointer (some ⟨t, 0, none⟩)) rfl (by kernel_rfl) (by kernel_rfl) (by kernel_rfl) (fun _ _ _ h => h) (Or.inl ⟨by rfl, fun w' hw' => ?_⟩) (HS0.out) ?_
  · obtain ⟨j0, j1, j2, j3, j4, j5⟩ := hw'
    go_simp
    try first | with_reducible rfl | simp
  refine wpAnyH_take (i := 4) (oi := _) (v := .slice (some ⟨b, 0, none⟩) n c) rfl (by kernel_rfl) (by kernel_rfl) (by kernel_rfl) (fun _ _ _ h => h) (Or.inl ⟨by rfl, fun w' hw' => ?_⟩) (HS0.out) ?_
  · obtain ⟨j0, j1, j2, j3, j4, j5⟩ := hw'
    go_simp
    try first | with_reducible rfl | simp
  refine wpAnyH_take (i := 5) (oi := _) (v := .agg #[.int .u8 1, .int .i64 tp, .int .i64 0, .int .i64 0, .int .i64 yp]) rfl (by kernel_rfl) (by kernel_rfl) (by kernel_rfl) (fun _ _ _ h => h) (Or.inl ⟨by rfl, fun w' hw' => ?_⟩) (HS0.out) ?_
  · obtain ⟨j0, j1, j2, j3, j4, j5⟩ := hw'
    go_simp
    try first | with_reducible rfl | simp
  refine RX.anyH_val (i := 6) (v := .slice (some ⟨(((W1.setCell ⟨g, 1, none⟩ (.int .i64 tp)).setCell ⟨g, 4, none⟩ (.int .i64 yp)).setCell ⟨b, k * 5 + 3, none⟩ (.int .i64 ((n : Int) + 1))).heap.size, 0, none⟩) 1 1) (w' := (((W1.setCell ⟨g, 1, none⟩ (.int .i64 tp)).setCell ⟨g, 4, none⟩ (.int .i64 yp)).setCell ⟨b, k * 5 + 3, none⟩ (.int .i64 ((n : Int) + 1))).drew.alloc (.cells #[.int .u8 1, .int .i64 tp, .int .i64 0, .int .i64 0, .int .i64 yp] 81)) (by kernel_rfl) rfl (by rfl) (by go_simp) (HS1.out) ?_
  refine RX.anyH_app (i := 7) (v := .slice (some ⟨b, 0, none⟩) n c) (u := .slice (some ⟨(((W1.setCell ⟨g, 1, none⟩ (.int .i64 tp)).setCell ⟨g, 4, none⟩ (.int .i64 yp)).setCell ⟨b, k * 5 + 3, none⟩ (.int .i64 ((n : Int) + 1))).heap.size, 0, none⟩) 1 1) (.tmp 53) (.tmp 55) (76) (76) (by kernel_rfl) rfl (by rfl) rfl (by go_simp) (by go_simp) (HRUN.out _) (HS2.out) ?_
  refine wpAnyH_done (by kernel_rfl) ?_ _
  unfold RX.lastQ
  obtain ⟨c0, f0⟩ := HC0.out
  go_wp2_with fail
  go_ret2
  exact ⟨F', rfl, HEND.out, HF.out, HT.out⟩

set_option maxRecDepth 100000 in
set_option maxHeartbeats 4000000 in
theorem begin_no (w : World) (t : Nat) (T : Tb) (F : Nat → Prop) (hs : T.n ≤ 100000) (p : Int) (hp : I64 p) (hp0 : p ≠ 0) (x : Int) (hx : T.err p = x) (hx0 : x ≠ 0) (h : Is w t T F) :
    Calls Try.prog 10 #[ptrV t, .int .i64 p] w fun e w' => e = .returned (.tuple #[.int .i64 0, .int .i64 x]) ∧ Below w.heap.size w w' := by
  obtain ⟨a, c, hwt, cw, _, _, _, _⟩ := h.tab.open
  obtain ⟨n, hn⟩ : ∃ n, T.n = n := ⟨_, rfl⟩
  obtain ⟨W, hW⟩ : ∃ W, w.alloc (.cells #[.int .u8 1, .int .i64 ((n : Int) + 1), .int .i64 0, .int .i64 0, .int .i64 0] 81) = W := ⟨_, rfl⟩
  have hb : Below w.heap.size w W := by rw [← hW]; exact Below.allocs _ _
  have hrunning := running_is W t T F p hp (h.below hb)
  rw [hx] at hrunning
  rw [hn] at cw hs
  unfold ptrV at hrunning ⊢
  have HRN := Lib.hid hrunning
  have HW := Lib.hid hW
  have HB := Lib.hid hb
  have hwr : wrap64 ((n : Int) + 1) = (n : Int) + 1 := wr (by omega)
  clear h hrunning hb hW hx
  go_enter Try.func10, Try.ntmps10
  go_wp2_with (fail)
  rw [HW.out]
  refine HRN.out.mono ?_
  rintro e w1 ⟨rfl, hb1⟩
  have HB1 := Lib.hid (below_tr HB.out hb1)
  clear hb1 HRN HW HB cw
  go_wp2_with fail
  go_ret2
  exact ⟨rfl, HB1.out⟩

theorem begin_nil (w : World) (p : Int) : Calls Try.prog 10 #[.pointer none, .int .i64 p] w fun e w' => e = .returned (.tuple #[.int .i64 0, .int .i64 2]) ∧ Below w.heap.size w w' := by
  have hB := Below.refl w.heap.size w
  go_enter Try.func10, Try.ntmps10
  go_wp2_with fail
  go_ret2
  exact ⟨rfl, hB⟩

/-- Begin. -/
theorem begin_is (w : World) (t : Nat) (T : Tb) (F : Nat → Prop) (hs : T.n ≤ 100000) (p : Int) (hp : I64 p) (h : Is w t T F) :
    Calls Try.prog 10 #[ptrV t, .int .i64 p] w fun e w' => ∃ F', e = .returned (.tuple #[.int .i64 (T.begI p), .int .i64 (T.begE p)]) ∧ Is w' t (T.begT p) F' ∧ (∀ k, F' k → F k ∨ w.heap.size ≤ k) ∧ Touch F w w' := by
  unfold Tb.begI Tb.begT
  by_cases h0 : p = 0
  · subst h0
    have e : T.begE 0 = 0 := by unfold Tb.begE; rw [if_pos rfl]
    rw [e, if_pos rfl, if_pos rfl]
    exact begin_zero w t T F hs h
  · have e : T.begE p = T.err p := by unfold Tb.begE; rw [if_neg h0]
    rw [e]
    by_cases he : T.err p = 0
    · obtain ⟨h1, h2, h3⟩ := Tb.err_ok he
      obtain ⟨k, rfl⟩ : ∃ k : Nat, p = (k : Int) + 1 := ⟨(p - 1).toNat, by omega⟩
      rw [if_pos he, if_pos he, he]
      rw [show ((k : Int) + 1).toNat = k + 1 by omega] at h3 ⊢
      exact begin_ok w t T F hs k (by omega) h3 h
    · rw [if_neg he, if_neg he]
      refine (begin_no w t T F hs p hp h0 _ rfl he h).mono ?_
      rintro e w' ⟨rfl, hb⟩
      exact ⟨F, rfl, h.below hb, fun k hk => .inl hk, Touch.of_below hb⟩

end Go.Proofs.Ytbgnbaogclnpgaa
