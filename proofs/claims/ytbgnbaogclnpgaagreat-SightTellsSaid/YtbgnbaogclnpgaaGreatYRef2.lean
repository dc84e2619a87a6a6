/-
  The document's own table of transactions (stage 9): Number, New, Begin: walked.
-/
import Derived.Test.YtbgnbaogclnpgaaGreatYRefM
import Derived.Test.YtbgnbaogclnpgaaGreatRegX
namespace Go.Proofs.YtbgnbaogclnpgaaGreat
open Go.RowKit
set_option linter.unusedVariables false

set_option maxRecDepth 100000 in
set_option maxHeartbeats 2000000 in
theorem numR_in (w : World) (x b c n q : Nat) (v id : Int) (hq1 : q < n) (hq2 : n ≤ 1000)
    (hcon : Calls Tryz.prog 51 #[.pointer (some ⟨x, 0, none⟩), .int .i64 id] w fun e w' => e = .returned (.bool true) ∧ Below w.heap.size w w')
    (HTOP : Hid (∀ w1, Below w.heap.size w w1 → Calls Tryz.prog 53 #[.pointer (some ⟨x, 0, none⟩), .int .i64 id] w1 fun e w' => e = .returned (.int .i64 ((q : Int) + 1)) ∧ Below w1.heap.size w1 w'))
    (HRD : Hid (∀ W', Below w.heap.size w W' → W'.cell? ⟨x, 0, none⟩ = some (.slice (some ⟨b, 0, none⟩) n c) ∧ W'.cell? ⟨b, q * 3 + 2, none⟩ = some (.int .i64 v) ∧ x < W'.heap.size ∧ b < W'.heap.size)) :
    Calls Tryz.prog 52 #[.pointer (some ⟨x, 0, none⟩), .int .i64 id] w fun e w' => e = .returned (.int .i64 v) ∧ Below w.heap.size w w' := by
  have hkn : (q : Int) < n := by omega
  have hk0 : (0 : Int) ≤ q := by omega
  have HQW2 : Hid (IntKind.i64.wrap (q : Int) = q) := Lib.hid (by rw [IntKind.wrap_i64]; omega)
  clear hq1 hq2
  go_enter Tryz.func52, Tryz.ntmps52
  go_wp2_with fail
  refine (show Calls Tryz.prog _ _ _ _ from hcon).mono ?_
  rintro e w1 ⟨rfl, hb⟩
  have HB1 := Lib.hid hb
  clear hcon hb
  go_upto_region 3 with (fail)
  have hdr := below_drw w1
  try simp only [List.append_eq, List.cons_append, List.nil_append]
  refine RX.wp_region_plan (fun w w' => Below w.heap.size w w') [.it (.pointer (some ⟨x, 0, none⟩)), .it (.pointer (some ⟨x, 0, none⟩)), .it (.pointer (some ⟨x, 0, none⟩)), .it (.slice (some ⟨b, 0, none⟩) n c), .it (.pointer (some ⟨x, 0, none⟩)), .it (.int .i64 id), .it (.int .i64 ((q : Int) + 1)), .it (.int .i64 (q : Int)), .it (.pointer (some ⟨b, q * 3, none⟩)), .it (.pointer (some ⟨b, q * 3 + 2, none⟩)), .it (.int .i64 v), .it (.int .i64 v)] (by kernel_rfl) (by kernel_rfl) (fun _ => Below.refl _ _) (fun _ _ _ => below_tr) ?_
  refine RX.seqP_value (fun _ => Below.refl _ _) _ (by first | rfl | simp) (fun w' hw' hctx => by (go_simp); (try first | with_reducible rfl | simp)) ?_
  simp only [Act.put, List.setIfInBounds_toArray, List.set_cons_zero, List.set_cons_succ]
  refine RX.seqP_value (fun _ => Below.refl _ _) _ (by first | rfl | simp) (fun w' hw' hctx => by (go_simp); (try first | with_reducible rfl | simp)) ?_
  simp only [Act.put, List.setIfInBounds_toArray, List.set_cons_zero, List.set_cons_succ]
  refine RX.seqP_value (fun _ => Below.refl _ _) _ (by first | rfl | simp) (fun w' hw' hctx => by (go_simp); (try first | with_reducible rfl | simp)) ?_
  simp only [Act.put, List.setIfInBounds_toArray, List.set_cons_zero, List.set_cons_succ]
  refine RX.seqP_value (fun _ => Below.refl _ _) _ (by first | rfl | simp) (fun w' hw' hctx => ?_) ?_
  · obtain ⟨e0, e1, e2, e3⟩ := HRD.out w' (below_tr HB1.out (below_tr hdr hw'))
    go_simp
    try first | with_reducible rfl | simp
  simp only [Act.put, List.setIfInBounds_toArray, List.set_cons_zero, List.set_cons_succ]
  refine RX.seqP_value (fun _ => Below.refl _ _) _ (by first | rfl | simp) (fun w' hw' hctx => by (go_simp); (try first | with_reducible rfl | simp)) ?_
  simp only [Act.put, List.setIfInBounds_toArray, List.set_cons_zero, List.set_cons_succ]
  refine RX.seqP_value (fun _ => Below.refl _ _) _ (by first | rfl | simp) (fun w' hw' hctx => by (go_simp); (try first | with_reducible rfl | simp)) ?_
  simp only [Act.put, List.setIfInBounds_toArray, List.set_cons_zero, List.set_cons_succ]
  refine RX.seqP_call (53) #[.pointer (some ⟨x, 0, none⟩), .int .i64 id] (.int .i64 ((q : Int) + 1)) (by first | rfl | simp) (fun w' hw' hctx => ?_) (fun w' hw' hctx => HTOP.out w' (below_tr HB1.out (below_tr hdr hw'))) ?_
  · go_simp
  simp only [Act.put, List.setIfInBounds_toArray, List.set_cons_zero, List.set_cons_succ]
  refine RX.seqP_value (fun _ => Below.refl _ _) _ (by first | rfl | simp) (fun w' hw' hctx => ?_) ?_
  · have hqw2 : IntKind.i64.wrap (q : Int) = q := HQW2.out
    go_simp
    try first | with_reducible rfl | simp
  simp only [Act.put, List.setIfInBounds_toArray, List.set_cons_zero, List.set_cons_succ]
  refine RX.seqP_value (fun _ => Below.refl _ _) _ (by first | rfl | simp) (fun w' hw' hctx => by (go_simp); (try first | with_reducible rfl | simp)) ?_
  simp only [Act.put, List.setIfInBounds_toArray, List.set_cons_zero, List.set_cons_succ]
  refine RX.seqP_value (fun _ => Below.refl _ _) _ (by first | rfl | simp) (fun w' hw' hctx => by (go_simp); (try first | with_reducible rfl | simp)) ?_
  simp only [Act.put, List.setIfInBounds_toArray, List.set_cons_zero, List.set_cons_succ]
  refine RX.seqP_value (fun _ => Below.refl _ _) _ (by first | rfl | simp) (fun w' hw' hctx => ?_) ?_
  · obtain ⟨e0, e1, e2, e3⟩ := HRD.out w' (below_tr HB1.out (below_tr hdr hw'))
    go_simp
    try first | with_reducible rfl | simp
  simp only [Act.put, List.setIfInBounds_toArray, List.set_cons_zero, List.set_cons_succ]
  refine RX.seqP_value (fun _ => Below.refl _ _) _ (by first | rfl | simp) (fun w' hw' hctx => by (go_simp); (try first | with_reducible rfl | simp)) ?_
  simp only [Act.put, List.setIfInBounds_toArray, List.set_cons_zero, List.set_cons_succ]
  refine RX.seqP_nil (fun w2 hR hctx _ => ?_)
  have hb2 := below_tr hdr hR
  clear hctx hR
  have HB2 := Lib.hid (below_tr HB1.out hb2)
  clear hb2 hdr
  go_wp2_with fail
  go_ret
  exact ⟨rfl, HB2.out⟩

set_option maxRecDepth 100000 in
set_option maxHeartbeats 2000000 in
theorem numR_is (w : World) (x : Nat) (T : Tb) (F : Nat → Prop) (hn : T.n ≤ 1000) (id : Int) (hi : I64 id) (hok : T.Ok) (h : IsR w x T F) : Calls Tryz.prog 52 #[.pointer (some ⟨x, 0, none⟩), .int .i64 id] w fun e w' => e = .returned (.int .i64 (T.numI id)) ∧ Below w.heap.size w w' := by
  obtain ⟨z, hz⟩ : ∃ z, T.cnt id = z := ⟨_, rfl⟩
  have hcon := countsR_is w x T F hn id hi hok h z hz
  unfold Tb.numI
  rw [hz]
  cases z with
  | false =>
    clear h hz
    go_enter Tryz.func52, Tryz.ntmps52
    go_wp2_with fail
    refine (show Calls Tryz.prog _ _ _ _ from hcon).mono ?_
    rintro e w1 ⟨rfl, hb⟩
    have HB := Lib.hid hb
    clear hcon hb
    go_wp2_with fail
    go_ret
    exact ⟨rfl, HB.out⟩
  | true =>
    have hin : 1 ≤ id ∧ id ≤ T.n := by
      by_cases hin : 1 ≤ id ∧ id ≤ T.n
      · exact hin
      · unfold Tb.cnt at hz; rw [Tb.g_out hin] at hz; exact absurd hz (by decide)
    have HH := Lib.hid h
    have htop := hok.top_in id.toNat (by omega) (by omega)
    obtain ⟨q, hq⟩ : ∃ q, T.top id.toNat = q + 1 := ⟨T.top id.toNat - 1, by omega⟩
    have hgt : T.g T.top id = (q : Int) + 1 := by rw [Tb.g_in hin, hq]; omega
    have hgn : T.g T.num (T.g T.top id) = (T.num (q + 1) : Int) := by rw [hgt, Tb.g_in (by omega), show ((q : Int) + 1).toNat = q + 1 by omega]
    have HTOP : Hid (∀ w1, Below w.heap.size w w1 → Calls Tryz.prog 53 #[.pointer (some ⟨x, 0, none⟩), .int .i64 id] w1 fun e w' => e = .returned (.int .i64 ((q : Int) + 1)) ∧ Below w1.heap.size w1 w') := Lib.hid (fun w1 hb => by
      have := topR_is w1 x T F hn id hi hok (h.below hb)
      rwa [hgt] at this)
    have HR : Calls Tryz.prog 52 #[.pointer (some ⟨x, 0, none⟩), .int .i64 id] w fun e w' => e = .returned (.int .i64 (T.num (q + 1) : Int)) ∧ Below w.heap.size w w' := by
      have hkn : (q : Int) < T.n := by omega
      have hk0 : (0 : Int) ≤ q := by omega
      obtain ⟨b, c, d0, d1, d2, d3, d4, d5, d6⟩ := h.at (j := q) (by omega)
      obtain ⟨n, hn9⟩ : ∃ n, T.n = n := ⟨_, rfl⟩
      obtain ⟨v, hv9⟩ : ∃ v : Int, (T.num (q + 1) : Int) = v := ⟨_, rfl⟩
      rw [hn9] at d1 d2 hkn
      rw [hv9] at d6 ⊢
      have HRD : Hid (∀ W', Below w.heap.size w W' → W'.cell? ⟨x, 0, none⟩ = some (.slice (some ⟨b, 0, none⟩) n c) ∧ W'.cell? ⟨b, q * 3 + 2, none⟩ = some (.int .i64 v) ∧ x < W'.heap.size ∧ b < W'.heap.size) := Lib.hid (fun W' hb => ⟨by rw [hb.cell d0]; exact d1, by rw [hb.cell d3]; exact d6, Nat.lt_of_lt_of_le d0 hb.size, Nat.lt_of_lt_of_le d3 hb.size⟩)
      exact numR_in w x b c n q v id (by omega) (by omega) hcon HTOP HRD
    rw [if_pos rfl, hgn]
    exact HR

theorem newR_is (w : World) : Calls Tryz.prog 9 #[] w fun e w' => ∃ x F, e = .returned (.pointer (some ⟨x, 0, none⟩)) ∧ IsR w' x Tb.new F ∧ (∀ k, F k → w.heap.size ≤ k) ∧ Below w.heap.size w w' := by
  have HB := Lib.hid (Below.allocs w (.cells #[.slice none 0 0, .int .i64 0] 79))
  have HL := Lib.hid (Lit.new w 79 [.slice none 0 0, .int .i64 0])
  go_enter Tryz.func9, Tryz.ntmps9
  go_wp2_with fail
  go_ret
  have hl := HL.out
  have hlt := hl.lt
  refine ⟨w.heap.size, fun k => k = w.heap.size, rfl, ⟨fun k h1 h2 => absurd h1 (by have : k ≤ 0 := h2; omega), rfl, fun k hk => by rw [hk]; exact hlt, .slice none 0 0, hl, RowF.nil _ _ _ _, fun k hk => by simp [Value.ownBlock] at hk⟩, fun k hk => by omega, HB.out⟩

/-- What Begin leaves when it begins one. -/
theorem begR_ready {w w1 : World} {x : Nat} {T : Tb} {F : Nat → Prop} (hok : T.Ok) (hs : T.n ≤ 1000) (p : Nat) (hp : p ≤ T.n) (h : IsR w1 x T F) (hb : Below w.heap.size w w1) :
    ∃ (n : Nat) (a : Option Addr) (c : Nat) (a1 : Option Addr) (c1 : Nat) (W2 : World) (a2 : Option Addr) (c2 : Nat) (W4 : World) (F' : Nat → Prop), T.n = n ∧ x < w1.heap.size ∧ w1.cell? ⟨x, 0, none⟩ = some (.slice a n c) ∧ x < (w1.alloc (.cells #[] 120)).heap.size ∧ (w1.alloc (.cells #[] 120)).cell? ⟨x, 0, none⟩ = some (.slice a n c) ∧
      (∀ ty, (Builtin.append_ #[77, 77] ty #[.slice (some ⟨w1.heap.size, 0, none⟩) 0 0, .slice a n c]).run Tryz.prog (w1.alloc (.cells #[] 120)) = .ok (.slice a1 n c1) W2) ∧
      (∀ ty, (Builtin.append_ #[77, 77] ty #[.slice a1 n c1, .slice (some ⟨W2.heap.size, 0, none⟩) 1 1]).run Tryz.prog (W2.alloc (.cells #[.int .i64 p, .int .u8 1, .int .i64 0] 120)) = .ok (.slice a2 (n + 1) c2) W4) ∧
      x < W4.heap.size ∧ W4.cell? ⟨x, 0, none⟩ = some (.slice a n c) ∧ W4.frozen? ⟨x, 0, none⟩ = false ∧ (W4.setCell ⟨x, 0, none⟩ (.slice a2 (n + 1) c2)).cell? ⟨x, 0, none⟩ = some (.slice a2 (n + 1) c2) ∧ x < (W4.setCell ⟨x, 0, none⟩ (.slice a2 (n + 1) c2)).heap.size ∧
      IsR (W4.setCell ⟨x, 0, none⟩ (.slice a2 (n + 1) c2)) x (T.add p) F' ∧ (∀ k, F' k → F k ∨ w.heap.size ≤ k) ∧ ∀ G : Nat → Prop, (∀ k, F k → G k) → Touch G w1 (W4.setCell ⟨x, 0, none⟩ (.slice a2 (n + 1) c2)) := by
  obtain ⟨s, hr⟩ := h.raw
  obtain ⟨n, hn⟩ : ∃ n, T.n = n := ⟨_, rfl⟩
  rw [hn] at hr hs hp
  obtain ⟨a, c, rfl, _, _⟩ := hr.row.form
  have hx := hr.lt x hr.ft
  obtain ⟨a1, c1, W2, r1, row1, own1, bel1⟩ := copy_run hr.row (fun j _ => recR_one T j) (by omega)
  obtain ⟨a2, c2, W4, r2, row2, own2, bel2⟩ := push_run row1 bel1.size own1 (by omega) [.int .i64 p, .int .u8 1, .int .i64 0] rfl (by simp [Value.oneCell'])
  have bel4 := bel1.trans bel2
  obtain ⟨l1, l2, l3⟩ := hr.put bel4 row2 own2
  have hal := Below.allocs w1 (.cells #[] 120)
  have hbs := hb.size
  refine ⟨n, a, c, a1, c1, W2, a2, c2, W4, fun k => F k ∨ (w1.heap.size ≤ k ∧ k < W4.heap.size), hn, hx, hr.lit.cell (o := 0) rfl, Nat.lt_of_lt_of_le hx hal.size, (hr.lit.below hal).cell (o := 0) rfl, r1, r2, Nat.lt_of_lt_of_le hx bel4.size, l1.cell (o := 0) rfl, l1.fz 0, l2.lit.cell (o := 0) rfl, l2.lt x l2.ft, ?_, fun k hk => ?_, fun G hG => l3.mono hG⟩
  · refine l2.is (by show T.n + 1 = _; rw [hn]) rfl (fun k h1 h2 => ?_) fun j hj => ?_
    · show upd T.par (T.n + 1) p k < k
      by_cases hk : k = T.n + 1
      · rw [hk, upd_same]; omega
      · rw [upd_ne _ _ _ hk]; exact h.pl k h1 (by omega)
    · unfold recR Tb.add
      simp only [hn, upd]
      by_cases hjn : j < n
      · simp only [if_pos hjn, if_neg (show ¬ j + 1 = n + 1 by omega)]
      · obtain rfl : j = n := by omega
        simp only [if_neg hjn, if_true]
        rfl
  · rcases hk with hk | hk
    · exact .inl hk
    · exact .inr (by omega)

set_option maxRecDepth 100000 in
set_option maxHeartbeats 2000000 in
theorem begR_zero (w : World) (x : Nat) (T : Tb) (F : Nat → Prop) (hok : T.Ok) (hs : T.n ≤ 1000) (h : IsR w x T F) :
    Calls Tryz.prog 34 #[.pointer (some ⟨x, 0, none⟩), .int .i64 0] w fun e w' => ∃ F', e = .returned (.tuple #[.int .i64 ((T.n : Int) + 1), .int .i64 0]) ∧ IsR w' x (T.add 0) F' ∧ (∀ k, F' k → F k ∨ w.heap.size ≤ k) ∧ Touch F w w' := by
  obtain ⟨n, a, c, a1, c1, W2, a2, c2, W4, F', hn, e0, e1, e2, e3, r1, r2, e4, e5, e6, e7, e8, hend, hF', htou⟩ := begR_ready hok hs 0 (Nat.zero_le _) h (Below.refl _ _)
  have HR1 := Lib.hid r1
  have HR2 := Lib.hid r2
  have HEND := Lib.hid hend
  have HF := Lib.hid hF'
  have HT := Lib.hid (htou F (fun _ h => h))
  have HL : Hid (((n + 1 : Nat) : Int) = (n : Int) + 1) := Lib.hid (by omega)
  rw [hn]
  simp only [Int.natCast_zero] at HR2
  clear h r1 r2 hend hF' htou hok hn hs
  go_enter Tryz.func34, Tryz.ntmps34
  go_wp2_with (at_builtin; first | (refine append_dst 34 rfl ?_; refine append_stepW rfl _ _ 77 rfl _ _ _ _ rfl rfl (HR1.out _) ?_) | (refine append_dst 38 rfl ?_; refine append_stepW rfl _ _ 77 rfl _ _ _ _ rfl rfl (HR2.out _) ?_))
  go_ret2
  exact ⟨F', by first | rfl | rw [HL.out], HEND.out, HF.out, HT.out⟩

set_option maxRecDepth 100000 in
set_option maxHeartbeats 2000000 in
theorem begR_ok (w : World) (x : Nat) (T : Tb) (F : Nat → Prop) (hok : T.Ok) (hs : T.n ≤ 1000) (k : Nat) (hk : k < T.n) (hst : T.st (k + 1) = 1) (h : IsR w x T F) :
    Calls Tryz.prog 34 #[.pointer (some ⟨x, 0, none⟩), .int .i64 ((k : Int) + 1)] w fun e w' => ∃ F', e = .returned (.tuple #[.int .i64 ((T.n : Int) + 1), .int .i64 0]) ∧ IsR w' x (T.add (k + 1)) F' ∧ (∀ k, F' k → F k ∨ w.heap.size ≤ k) ∧ Touch F w w' := by
  have hcon := is_is w x T F ((k : Int) + 1) true (decide_eq_true (by omega)) h
  have HR : Hid (∀ w1, Below w.heap.size w w1 → _) := Lib.hid (fun w1 (hb : Below w.heap.size w w1) => begR_ready (w := w) hok hs (k + 1) hk (h.below hb) hb)
  have HH := Lib.hid h
  have HK : Hid (((k + 1 : Nat) : Int) = (k : Int) + 1) := Lib.hid (by omega)
  have hkn : (k : Int) < T.n := by omega
  have hk0 : (0 : Int) ≤ k := by omega
  have hkz : ¬ (k : Int) + 1 = 0 := by omega
  have HW : Hid (wrap64 (k : Int) = k) := Lib.hid (wr0 (by omega))
  have HST : Hid ((T.st (k + 1) : Int) = 1) := Lib.hid (by omega)
  have HKT := Lib.hid hk
  obtain ⟨n0, hn0⟩ : ∃ n0, T.n = n0 := ⟨_, rfl⟩
  have HN0 := Lib.hid hn0
  rw [hn0] at hkn hs ⊢
  clear h hok hst hk hn0
  go_enter Tryz.func34, Tryz.ntmps34
  go_wp2_with fail
  refine (show Calls Tryz.prog _ _ _ _ from hcon).mono ?_
  rintro e w1 ⟨rfl, hb⟩
  obtain ⟨n, a, c, a1, c1, W2, a2, c2, W4, F', hn, e0, e1, e2, e3, r1, r2, e4, e5, e6, e7, e8, hend, hF', htou⟩ := HR.out w1 hb
  obtain ⟨b9, c9, d0, d1, d2, d3, d4, d5, d6⟩ := (HH.out.below hb).at (j := k) HKT.out
  rw [HST.out] at d5
  obtain rfl : n0 = n := HN0.out.symm.trans hn
  rw [hn] at d1 d2
  rw [e1] at d1
  obtain ⟨rfl, rfl⟩ : a = some ⟨b9, 0, none⟩ ∧ c = c9 := by simpa using d1
  have HR1 := Lib.hid r1
  have HR2 := Lib.hid r2
  rw [HK.out] at HR2
  have HEND := Lib.hid hend
  have HF := Lib.hid hF'
  have HT := Lib.hid ((Touch.of_below (F := F) hb).trans (htou F (fun _ h => h)) (fun _ _ h => h))
  have HL : Hid (((n0 + 1 : Nat) : Int) = (n0 : Int) + 1) := Lib.hid (by omega)
  have hw := HW.out
  clear hcon hb r1 r2 hend hF' htou hn hs d1 d4 d6 HR HH
  go_wp2_with (at_builtin; first | (refine append_dst 34 rfl ?_; refine append_stepW rfl _ _ 77 rfl _ _ _ _ rfl rfl (HR1.out _) ?_) | (refine append_dst 38 rfl ?_; refine append_stepW rfl _ _ 77 rfl _ _ _ _ rfl rfl (HR2.out _) ?_))
  go_ret2
  exact ⟨F', by first | rfl | rw [HL.out], HEND.out, HF.out, HT.out⟩

set_option maxRecDepth 100000 in
set_option maxHeartbeats 2000000 in
theorem begR_no (w : World) (x : Nat) (T : Tb) (F : Nat → Prop) (hs : T.n ≤ 1000) (p : Int) (hp : I64 p) (hp0 : p ≠ 0) (y : Int) (hy : T.err p = y) (hy0 : y ≠ 0) (h : IsR w x T F) :
    Calls Tryz.prog 34 #[.pointer (some ⟨x, 0, none⟩), .int .i64 p] w fun e w' => e = .returned (.tuple #[.int .i64 0, .int .i64 y]) ∧ Below w.heap.size w w' := by
  rcases T.err_cases p with ⟨h0, _⟩ | ⟨h7, h1, h2, h3⟩ | ⟨h5, h1⟩
  · omega
  · obtain rfl : y = 7 := by omega
    obtain ⟨k, rfl⟩ : ∃ k : Nat, p = (k : Int) + 1 := ⟨(p - 1).toNat, by omega⟩
    rw [show ((k : Int) + 1).toNat = k + 1 by omega] at h3
    have hcon := is_is w x T F ((k : Int) + 1) true (decide_eq_true ⟨h1, h2⟩) h
    have HH := Lib.hid h
    obtain ⟨st, hst⟩ : ∃ st, T.st (k + 1) = st := ⟨_, rfl⟩
    rw [hst] at h3
    have hkn : (k : Int) < T.n := by omega
    have hk0 : (0 : Int) ≤ k := by omega
    have hkz : ¬ (k : Int) + 1 = 0 := by omega
    have hsz : ¬ (st : Int) = 1 := by omega
    have hkb : ((k : Int) + 1 != 0) = true := by simpa using hkz
    have hsb : ((st : Int) != 1) = true := by simpa using hsz
    have HW : Hid (wrap64 (k : Int) = k) := Lib.hid (wr0 (by omega))
    have HKT : Hid (k < T.n) := Lib.hid (by omega)
    have HST := Lib.hid hst
    clear h h1 h2 h3 h7 hp hp0 hy hy0 hst hs
    go_enter Tryz.func34, Tryz.ntmps34
    go_wp2_with fail
    refine (show Calls Tryz.prog _ _ _ _ from hcon).mono ?_
    rintro e w1 ⟨rfl, hb⟩
    obtain ⟨b9, c9, d0, d1, d2, d3, d4, d5, d6⟩ := (HH.out.below hb).at (j := k) HKT.out
    rw [HST.out] at d5
    have hw := HW.out
    have HB := Lib.hid hb
    clear hcon hb d4 d6 HH
    go_wp2_with fail
    go_ret2
    exact ⟨rfl, HB.out⟩
  · obtain rfl : y = 5 := by omega
    have hcon := is_is w x T F p false (decide_eq_false h1) h
    have hpz : ¬ p = 0 := hp0
    clear h h1 h5 hp hy hy0 hs hp0
    go_enter Tryz.func34, Tryz.ntmps34
    go_wp2_with fail
    refine (show Calls Tryz.prog _ _ _ _ from hcon).mono ?_
    rintro e w1 ⟨rfl, hb⟩
    have HB := Lib.hid hb
    clear hcon hb
    go_wp2_with fail
    go_ret2
    exact ⟨rfl, HB.out⟩

/-- Begin. -/
theorem begR_is (w : World) (x : Nat) (T : Tb) (F : Nat → Prop) (hok : T.Ok) (hs : T.n ≤ 1000) (p : Int) (hp : I64 p) (h : IsR w x T F) :
    Calls Tryz.prog 34 #[.pointer (some ⟨x, 0, none⟩), .int .i64 p] w fun e w' => ∃ F', e = .returned (.tuple #[.int .i64 (T.begI p), .int .i64 (T.begE p)]) ∧ IsR w' x (T.begT p) F' ∧ (∀ k, F' k → F k ∨ w.heap.size ≤ k) ∧ Touch F w w' := by
  unfold Tb.begI Tb.begT
  by_cases h0 : p = 0
  · subst h0
    have e : T.begE 0 = 0 := by unfold Tb.begE; rw [if_pos rfl]
    rw [e, if_pos rfl, if_pos rfl]
    exact begR_zero w x T F hok hs h
  · have e : T.begE p = T.err p := by unfold Tb.begE; rw [if_neg h0]
    rw [e]
    by_cases he : T.err p = 0
    · obtain ⟨h1, h2, h3⟩ := Tb.err_ok he
      obtain ⟨k, rfl⟩ : ∃ k : Nat, p = (k : Int) + 1 := ⟨(p - 1).toNat, by omega⟩
      rw [if_pos he, if_pos he, he]
      rw [show ((k : Int) + 1).toNat = k + 1 by omega] at h3 ⊢
      exact begR_ok w x T F hok hs k (by omega) h3 h
    · rw [if_neg he, if_neg he]
      refine (begR_no w x T F hs p hp h0 _ rfl he h).mono ?_
      rintro e w' ⟨rfl, hb⟩
      exact ⟨F, rfl, h.below hb, fun k hk => .inl hk, Touch.of_below hb⟩

end Go.Proofs.YtbgnbaogclnpgaaGreat
