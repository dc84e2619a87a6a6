/-
  give of the document's lock, walked (stage 14).
-/
import Derived.Test.YtjjhmfpdbjflmaaPRgv
namespace Go.Proofs.Ytjjhmfpdbjflmaa
open Go.RowKit
set_option linter.unusedVariables false

set_option maxRecDepth 100000 in
set_option maxHeartbeats 8000000 in
theorem rgive_some (w : World) (x b n c : Nat) (t : Value) (A : Lk) (y m : Int) (hok : Ok0 A) (hm : U8 m) (h15 : m < 16) (hlen : A.hd.length ≤ 100000) (H : RkM w x (.slice (some ⟨b, 0, none⟩) n c) t A) :
    Calls Try.prog 37 #[.pointer (some ⟨x, 0, none⟩), .int .i64 y, .int .u8 m] w fun e w' => e = .returned (.tuple #[]) ∧ ∃ s', RkM w' x s' t ⟨A.c, giveL A.hd y m, A.wt⟩ ∧ (∀ j, s'.ownBlock = some j → (Value.slice (some ⟨b, 0, none⟩) n c).ownBlock = some j ∨ w.heap.size ≤ j) ∧ Touch (fun j => j = x ∨ (Value.slice (some ⟨b, 0, none⟩) n c).ownBlock = some j) w w' := by
  have mixed : Try.prog.follows Departure.mixedOrders = true := by kernel_rfl
  obtain ⟨hnc, hcm, hln⟩ := H.hd.cap
  have hn : n ≤ 100000 := by omega
  obtain ⟨u, hu⟩ : ∃ u, withN 0 m = u := ⟨_, rfl⟩
  have HU0 := Lib.hid hu
  have HM := Lib.hid (And.intro hm h15)
  have HRK := Lib.hid H
  have HLN := Lib.hid hln
  have HOK := Lib.hid hok
  obtain ⟨d0, d1, d2, dl⟩ := H.cells
  clear H hln hu hm h15 hok hlen
  go_enter Try.func37, Try.ntmps37
  go_wp2_with fail
  go_loopg [6] n (fun gg s6 wr => ∃ (i : Nat), s6 = .int .i64 i ∧ i ≤ n ∧ n - i ≤ gg ∧ w = wr ∧ Hid (∀ j : Nat, j < i → ∀ q, A.hd[j]? = some q → q.1 ≠ y))
  case atStart => exact ⟨0, rfl, Nat.zero_le _, by omega, rfl, Lib.hid (fun j hj => by omega)⟩
  case round =>
    obtain ⟨i, rfl, hi, hgg, rfl, HN⟩ := hrel
    by_cases hlt : i < n
    · have hltz : (i : Int) < (n : Int) := by omega
      obtain ⟨p, hp⟩ := get_pl (l := A.hd) (i := i) (by rw [← HLN.out]; exact hlt)
      obtain ⟨hbl, c0, c1, -, hfz⟩ := HRK.out.hd.cell hp
      simp only [if_true] at c1
      obtain ⟨z, v⟩ := p
      have c0 : w.cell? ⟨b, i * 3, none⟩ = some (.int .i64 z) := c0
      have HP := Lib.hid hp
      have HFZ := Lib.hid hfz
      have HLT := Lib.hid (And.intro hlt (And.intro hi hgg))
      clear hi hgg hp hfz c1
      by_cases hyx : z = y
      · have hc : (z == y) = true := by simpa using hyx
        have HU : Hid (U16 v) := Lib.hid (HOK.out.held _ (List.mem_of_getElem? HP.out)).2.2.1
        obtain ⟨wv, hwv⟩ : ∃ wv, withN v m = wv := ⟨_, rfl⟩
        have hor : bits .or .u16 v u = wv := by rw [← HU0.out, ← hwv]; exact or_with HU.out HM.out.1 HM.out.2
        have HWV := Lib.hid hwv
        have HZY := Lib.hid hyx
        clear hwv hyx
        go_upto_region 4 with (fail)
        have hdr := below_drw w
        try simp only [List.append_eq, List.cons_append, List.nil_append]
        refine RX.wp_region_planG 16 (fun w w' => Below w.heap.size w w') [.it (.pointer (some ⟨x, 0, none⟩)), .it (.pointer (some ⟨x, 0, none⟩)), .it (.pointer (some ⟨x, 1, none⟩)), .it (.slice (some ⟨b, 0, none⟩) n c), .it (.int .i64 i), .it (.pointer (some ⟨x, 0, none⟩)), .it (.pointer (some ⟨x, 0, none⟩)), .it (.pointer (some ⟨x, 1, none⟩)), .it (.slice (some ⟨b, 0, none⟩) n c), .it (.int .i64 i), .it (.pointer (some ⟨b, i * 3, none⟩)), .it (.pointer (some ⟨b, i * 3 + 1, none⟩)), .it (.int .u16 v), .it (.int .u8 m), .it (.int .u16 u), .it (.int .u16 wv)] mixed (by kernel_rfl) (fun _ => Below.refl _ _) (fun _ _ _ => below_tr) ?_
        simp only [List.take_succ_cons, List.take_zero, List.drop_succ_cons, List.drop_zero]
        refine RX.seqP_value (fun _ => Below.refl _ _) _ (by first | rfl | simp) (fun w' hw' hctx => by (go_simp); (try first | with_reducible rfl | simp)) ?_
        simp only [Act.put, List.setIfInBounds_toArray, List.set_cons_zero, List.set_cons_succ]
        refine RX.seqP_value (fun _ => Below.refl _ _) _ (by first | rfl | simp) (fun w' hw' hctx => by (go_simp); (try first | with_reducible rfl | simp)) ?_
        simp only [Act.put, List.setIfInBounds_toArray, List.set_cons_zero, List.set_cons_succ]
        refine RX.seqP_value (fun _ => Below.refl _ _) _ (by first | rfl | simp) (fun w' hw' hctx => by (go_simp); (try first | with_reducible rfl | simp)) ?_
        simp only [Act.put, List.setIfInBounds_toArray, List.set_cons_zero, List.set_cons_succ]
        refine RX.seqP_value (fun _ => Below.refl _ _) _ (by first | rfl | simp) (fun w' hw' hctx => ?_) ?_
        · have q := HRK.out.below (below_tr hdr hw')
          obtain ⟨d0, d1, d2, dl⟩ := q.cells
          obtain ⟨hbl, q0, q1, q2, -⟩ := RowO.cell q.hd HP.out
          simp only [if_true] at q1 q2
          go_simp
          try first | with_reducible rfl | simp
        simp only [Act.put, List.setIfInBounds_toArray, List.set_cons_zero, List.set_cons_succ]
        refine RX.seqP_value (fun _ => Below.refl _ _) _ (by first | rfl | simp) (fun w' hw' hctx => by (go_simp); (try first | with_reducible rfl | simp)) ?_
        simp only [Act.put, List.setIfInBounds_toArray, List.set_cons_zero, List.set_cons_succ]
        refine RX.seqP_value (fun _ => Below.refl _ _) _ (by first | rfl | simp) (fun w' hw' hctx => by (go_simp); (try first | with_reducible rfl | simp)) ?_
        simp only [Act.put, List.setIfInBounds_toArray, List.set_cons_zero, List.set_cons_succ]
        refine RX.seqP_value (fun _ => Below.refl _ _) _ (by first | rfl | simp) (fun w' hw' hctx => by (go_simp); (try first | with_reducible rfl | simp)) ?_
        simp only [Act.put, List.setIfInBounds_toArray, List.set_cons_zero, List.set_cons_succ]
        refine RX.seqP_value (fun _ => Below.refl _ _) _ (by first | rfl | simp) (fun w' hw' hctx => by (go_simp); (try first | with_reducible rfl | simp)) ?_
        simp only [Act.put, List.setIfInBounds_toArray, List.set_cons_zero, List.set_cons_succ]
        refine RX.seqP_value (fun _ => Below.refl _ _) _ (by first | rfl | simp) (fun w' hw' hctx => ?_) ?_
        · have q := HRK.out.below (below_tr hdr hw')
          obtain ⟨d0, d1, d2, dl⟩ := q.cells
          obtain ⟨hbl, q0, q1, q2, -⟩ := RowO.cell q.hd HP.out
          simp only [if_true] at q1 q2
          go_simp
          try first | with_reducible rfl | simp
        simp only [Act.put, List.setIfInBounds_toArray, List.set_cons_zero, List.set_cons_succ]
        refine RX.seqP_value (fun _ => Below.refl _ _) _ (by first | rfl | simp) (fun w' hw' hctx => by (go_simp); (try first | with_reducible rfl | simp)) ?_
        simp only [Act.put, List.setIfInBounds_toArray, List.set_cons_zero, List.set_cons_succ]
        refine RX.seqP_value (fun _ => Below.refl _ _) _ (by first | rfl | simp) (fun w' hw' hctx => ?_) ?_
        · have q := HRK.out.below (below_tr hdr hw')
          obtain ⟨d0, d1, d2, dl⟩ := q.cells
          obtain ⟨hbl, q0, q1, q2, -⟩ := RowO.cell q.hd HP.out
          simp only [if_true] at q1 q2
          go_simp
          try first | with_reducible rfl | simp
        simp only [Act.put, List.setIfInBounds_toArray, List.set_cons_zero, List.set_cons_succ]
        refine RX.seqP_value (fun _ => Below.refl _ _) _ (by first | rfl | simp) (fun w' hw' hctx => ?_) ?_
        · have q := HRK.out.below (below_tr hdr hw')
          obtain ⟨d0, d1, d2, dl⟩ := q.cells
          obtain ⟨hbl, q0, q1, q2, -⟩ := RowO.cell q.hd HP.out
          simp only [if_true] at q1 q2
          go_simp
          try first | with_reducible rfl | simp
        simp only [Act.put, List.setIfInBounds_toArray, List.set_cons_zero, List.set_cons_succ]
        refine RX.seqP_value (fun _ => Below.refl _ _) _ (by first | rfl | simp) (fun w' hw' hctx => ?_) ?_
        · have q := HRK.out.below (below_tr hdr hw')
          obtain ⟨d0, d1, d2, dl⟩ := q.cells
          obtain ⟨hbl, q0, q1, q2, -⟩ := RowO.cell q.hd HP.out
          simp only [if_true] at q1 q2
          go_simp
          try first | with_reducible rfl | simp
        simp only [Act.put, List.setIfInBounds_toArray, List.set_cons_zero, List.set_cons_succ]
        refine RX.seqP_value (fun _ => Below.refl _ _) _ (by first | rfl | simp) (fun w' hw' hctx => by (go_simp); (try first | with_reducible rfl | simp)) ?_
        simp only [Act.put, List.setIfInBounds_toArray, List.set_cons_zero, List.set_cons_succ]
        refine RX.seqP_call (60) #[.int .u8 m] (.int .u16 u) (by first | rfl | simp) (fun w' hw' hctx => ?_) (fun w' hw' hctx => rbit_is m HM.out.1 HM.out.2 w' u HU0.out) ?_
        · go_simp
        simp only [Act.put, List.setIfInBounds_toArray, List.set_cons_zero, List.set_cons_succ]
        refine RX.seqP_value (fun _ => Below.refl _ _) _ (by first | rfl | simp) (fun w' hw' hctx => by (go_simp); (try first | with_reducible rfl | simp)) ?_
        simp only [Act.put, List.setIfInBounds_toArray, List.set_cons_zero, List.set_cons_succ]
        refine RX.seqP_nil (fun w2 hR hctx _ => ?_)
        have hb2 := below_tr hdr hR
        have HB2 := Lib.hid hb2
        have H2 := HRK.out.below hb2
        obtain ⟨hbl2, k0, k1, -, hfz2⟩ := H2.hd.cell HP.out
        have hf2 := hfz2 (i * 3 + 1)
        have HK2 := Lib.hid H2
        clear hb2 hdr H2 hfz2 c0 hbl hctx hR
        unfold RX.lastQ
        go_wp2_with fail
        have hts := Touch.setCell w2 (F := fun j => j = b) rfl (i * 3 + 1) (.int .u16 wv)
        have hst := hts.stay (G := fun j => j ≠ b) (fun j hj e => hj e)
        have hown := HK2.out.ownH b rfl
        have hrow : RowO true (w2.setCell ⟨b, i * 3 + 1, none⟩ (.int .u16 wv)) (.slice (some ⟨b, 0, none⟩) n c) (giveL A.hd y m) := by
          rw [giveL_set HOK.out.rise (by rw [HP.out, HZY.out]), HWV.out]
          unfold RowO
          rw [List.length_set]
          have hr := HK2.out.hd
          unfold RowO at hr
          rw [← HLN.out] at hr ⊢
          refine RowF.congr (RowF.set hr (j := i) (c := 1) (o := i * 3 + 1) rfl HLT.out.1 (by omega) rfl (.int .u16 wv)) fun j hj => ?_
          unfold updR
          by_cases e : j = i
          · subst e
            have hl : j < A.hd.length := by rw [← HLN.out]; exact HLT.out.1
            have hg : A.hd.getD j (0, 0) = (z, v) := by
              have := HP.out
              rw [List.getElem?_eq_getElem hl] at this
              rw [List.getD_eq_getElem?_getD, List.getElem?_eq_getElem hl]
              simpa using this
            rw [if_pos rfl, hg]
            simp [eO, hl, HZY.out]
          · rw [if_neg e]
            simp [show ¬ i = j from fun e2 => e e2.symm]
        have hfin : ∃ s', RkM (w2.setCell ⟨b, i * 3 + 1, none⟩ (.int .u16 wv)) x s' t ⟨A.c, giveL A.hd y m, A.wt⟩ ∧ (∀ j, s'.ownBlock = some j → (Value.slice (some ⟨b, 0, none⟩) n c).ownBlock = some j ∨ w.heap.size ≤ j) ∧ Touch (fun j => j = x ∨ (Value.slice (some ⟨b, 0, none⟩) n c).ownBlock = some j) w (w2.setCell ⟨b, i * 3 + 1, none⟩ (.int .u16 wv)) :=
          ⟨_, ⟨HK2.out.lit.stay hst (fun e => hown.1 e.symm), hrow, HK2.out.wt.stay hst (fun j hj e => hown.2 (by rw [← e]; exact hj)), HK2.out.ownH, HK2.out.ownW⟩, fun j hj => .inl hj, (Touch.of_below HB2.out).trans hts (fun j _ hj => .inr (by rw [hj]; rfl))⟩
        exact bodyPost_ret (v := .tuple #[]) (by first | (simp [results, Try.results37, go_sem]; done) | (simp [results, Try.results37, go_sem]; rfl)) rfl ⟨rfl, hfin⟩
      · have hc : (z == y) = false := by simpa using hyx
        have HNE := Lib.hid hyx
        clear hyx
        go_wp2_with fail
        go_roundg (n - (i + 1))
        case measure => have := HLT.out; omega
        case rel => exact ⟨i + 1, by go_num, by have := HLT.out; omega, Nat.le_refl _, rfl, Lib.hid (fun j hj q hq => by
          by_cases e : j = i
          · subst e
            rw [HP.out] at hq
            cases hq
            exact HNE.out
          · exact HN.out j (by omega) q hq)⟩
    · have hltz : ¬ (i : Int) < (n : Int) := by omega
      have HNO : Hid (∀ (j : Nat) q, A.hd[j]? = some q → q.1 ≠ y) := Lib.hid (fun j q hq => HN.out j (by have := (List.getElem?_eq_some_iff.1 hq).1; have := HLN.out; omega) q hq)
      clear hi hgg hlt HN
      go_wp2_with fail
      go_loopg [7] n (fun gg s7 wr => ∃ (k : Nat), s7 = .int .i64 k ∧ k ≤ n ∧ n - k ≤ gg ∧ w = wr ∧ Hid (∀ j : Nat, j < k → ∀ q, A.hd[j]? = some q → q.1 < y))
      case atStart => exact ⟨0, rfl, Nat.zero_le _, by omega, rfl, Lib.hid (fun j hj => by omega)⟩
      case round =>
        obtain ⟨k, rfl, hk, hgg, rfl, HLO⟩ := hrel
        have hkc : k ≤ c := by omega
        by_cases hlt : k < n
        · have hltz2 : (k : Int) < (n : Int) := by omega
          obtain ⟨p, hp⟩ := get_pl (l := A.hd) (i := k) (by rw [← HLN.out]; exact hlt)
          obtain ⟨hbl, c0, -, -, -⟩ := HRK.out.hd.cell hp
          obtain ⟨z, v⟩ := p
          have c1 : w.cell? ⟨b, k * 3, none⟩ = some (.int .i64 z) := c0
          have HP := Lib.hid hp
          have HLT := Lib.hid (And.intro hlt (And.intro hk hgg))
          clear hgg hp c0
          by_cases hzy : z < y
          · have HZY := Lib.hid hzy
            go_wp2_with fail
            go_roundg (n - (k + 1))
            case measure => have := HLT.out; omega
            case rel => exact ⟨k + 1, by go_num, by have := HLT.out; omega, Nat.le_refl _, rfl, Lib.hid (fun j hj q hq => by
              by_cases e : j = k
              · subst e
                rw [HP.out] at hq
                cases hq
                exact HZY.out
              · exact HLO.out j (by omega) q hq)⟩
          · have hci : ¬ c = k := by omega
            have HHI : Hid (∀ q, A.hd[k]? = some q → y < q.1) := Lib.hid (fun q hq => by
              have h1 := HNO.out k q hq
              rw [HP.out] at hq
              cases hq
              have h1 : z ≠ y := h1
              show y < z
              omega)
            obtain ⟨a1, c1, W2, r1, b2, hrest⟩ := give_build HRK.out.hd hk (by omega) y u (off := k * 3) (fun _ => rfl)
            have R1 := Lib.hid r1
            have HB2 := Lib.hid b2
            have HREST := Lib.hid hrest
            clear r1 b2 hrest
            go_upto_region 9 with (first | (at_builtin; refine append_stepW rfl _ _ 59 rfl _ _ _ _ rfl rfl (R1.out _) ?_) | fail)
            have hcon := rbit_is m HM.out.1 HM.out.2 W2 u HU0.out
            go_wp2_with fail
            refine (show Calls Try.prog _ _ _ _ from hcon).mono ?_
            rintro e W3 ⟨rfl, hb3⟩
            obtain ⟨a2, c2, W4, a3, c3, W6, r2, b4, r3, q3, o3, b6⟩ := HREST.out W3 hb3
            skip
            have R2 := Lib.hid r2
            have R3 := Lib.hid r3
            obtain ⟨f0, f1, f2, fl⟩ := (HRK.out.below b4).cells
            have HK6 := HRK.out.below b6
            obtain ⟨f3, f4, f5, fm⟩ := HK6.cells
            have HF1 := Lib.hid f4
            have HFM := Lib.hid fm
            have hz := HK6.lit.fz 1
            have hts := Touch.setCell W6 (F := fun j => j = x) rfl 1 (.slice a3 (n + 1) c3)
            have hst := hts.stay (G := fun j => j ≠ x) (fun j hj e => hj e)
            have HE : Hid (RkM (W6.setCell ⟨x, 1, none⟩ (.slice a3 (n + 1) c3)) x (.slice a3 (n + 1) c3) t ⟨A.c, giveL A.hd y m, A.wt⟩ ∧ (∀ j, Value.ownBlock (.slice a3 (n + 1) c3) = some j → (Value.slice (some ⟨b, 0, none⟩) n c).ownBlock = some j ∨ w.heap.size ≤ j) ∧ Touch (fun j => j = x ∨ (Value.slice (some ⟨b, 0, none⟩) n c).ownBlock = some j) w (W6.setCell ⟨x, 1, none⟩ (.slice a3 (n + 1) c3))) := Lib.hid ⟨⟨HK6.lit.set 1 _, by
                show RowO true _ _ (giveL A.hd y m)
                rw [giveL_mid HLO.out HHI.out, HU0.out]
                exact RowO.stay q3 hst (fun j hj => by have := o3 j hj; have := HRK.out.lit.lt; omega), HK6.wt.stay hst (fun j hj => HK6.ownW j hj), fun j hj => ⟨by have := o3 j hj; have := HRK.out.lit.lt; omega, fun e => by have := o3 j hj; have := HRK.out.wt.lt j e; omega⟩, HRK.out.ownW⟩, fun j hj => .inr (o3 j hj), (Touch.of_below b6).trans hts (fun j _ hj => .inl hj)⟩
            clear hcon hb3 r2 r3 q3 o3 b4 b6 HK6 hts hst HREST HB2 R1 f3 f4 f5 fm
            go_upto_region 10 with (first | (at_builtin; refine append_stepW rfl _ _ 59 rfl _ _ _ _ rfl rfl (R2.out _) ?_) | fail)
            have g3 := HF1.out
            have g4 := HFM.out
            go_wp2_with (first | (at_builtin; refine append_stepW rfl _ _ 59 rfl _ _ _ _ rfl rfl (R3.out _) ?_) | fail)
            go_end0
            exact ⟨rfl, _, HE.out⟩
        · have hltz2 : ¬ (k : Int) < (n : Int) := by omega
          obtain rfl : k = n := by omega
          have HHI : Hid (∀ q, A.hd[k]? = some q → y < q.1) := Lib.hid (fun q hq => by have := (List.getElem?_eq_some_iff.1 hq).1; have := HLN.out; omega)
          clear hgg
          by_cases hci : c = k
          · subst hci
            obtain ⟨a1, c1, W2, r1, b2, hrest⟩ := give_build HRK.out.hd hk (by omega) y u (off := 0) (fun e => absurd e hlt)
            have R1 := Lib.hid r1
            have HB2 := Lib.hid b2
            have HREST := Lib.hid hrest
            clear r1 b2 hrest
            go_upto_region 9 with (first | (at_builtin; refine append_stepW rfl _ _ 59 rfl _ _ _ _ rfl rfl (R1.out _) ?_) | fail)
            have hcon := rbit_is m HM.out.1 HM.out.2 W2 u HU0.out
            go_wp2_with fail
            refine (show Calls Try.prog _ _ _ _ from hcon).mono ?_
            rintro e W3 ⟨rfl, hb3⟩
            obtain ⟨a2, c2, W4, a3, c3, W6, r2, b4, r3, q3, o3, b6⟩ := HREST.out W3 hb3
            simp only [Nat.sub_self] at r3
            have R2 := Lib.hid r2
            have R3 := Lib.hid r3
            obtain ⟨f0, f1, f2, fl⟩ := (HRK.out.below b4).cells
            have HK6 := HRK.out.below b6
            obtain ⟨f3, f4, f5, fm⟩ := HK6.cells
            have HF1 := Lib.hid f4
            have HFM := Lib.hid fm
            have hz := HK6.lit.fz 1
            have hts := Touch.setCell W6 (F := fun j => j = x) rfl 1 (.slice a3 (c + 1) c3)
            have hst := hts.stay (G := fun j => j ≠ x) (fun j hj e => hj e)
            have HE : Hid (RkM (W6.setCell ⟨x, 1, none⟩ (.slice a3 (c + 1) c3)) x (.slice a3 (c + 1) c3) t ⟨A.c, giveL A.hd y m, A.wt⟩ ∧ (∀ j, Value.ownBlock (.slice a3 (c + 1) c3) = some j → (Value.slice (some ⟨b, 0, none⟩) c c).ownBlock = some j ∨ w.heap.size ≤ j) ∧ Touch (fun j => j = x ∨ (Value.slice (some ⟨b, 0, none⟩) c c).ownBlock = some j) w (W6.setCell ⟨x, 1, none⟩ (.slice a3 (c + 1) c3))) := Lib.hid ⟨⟨HK6.lit.set 1 _, by
                show RowO true _ _ (giveL A.hd y m)
                rw [giveL_mid HLO.out HHI.out, HU0.out]
                exact RowO.stay q3 hst (fun j hj => by have := o3 j hj; have := HRK.out.lit.lt; omega), HK6.wt.stay hst (fun j hj => HK6.ownW j hj), fun j hj => ⟨by have := o3 j hj; have := HRK.out.lit.lt; omega, fun e => by have := o3 j hj; have := HRK.out.wt.lt j e; omega⟩, HRK.out.ownW⟩, fun j hj => .inr (o3 j hj), (Touch.of_below b6).trans hts (fun j _ hj => .inl hj)⟩
            clear hcon hb3 r2 r3 q3 o3 b4 b6 HK6 hts hst HREST HB2 R1 f3 f4 f5 fm
            go_upto_region 10 with (first | (at_builtin; refine append_stepW rfl _ _ 59 rfl _ _ _ _ rfl rfl (R2.out _) ?_) | fail)
            have g3 := HF1.out
            have g4 := HFM.out
            go_wp2_with (first | (at_builtin; refine append_stepW rfl _ _ 59 rfl _ _ _ _ rfl rfl (R3.out _) ?_) | fail)
            go_end0
            exact ⟨rfl, _, HE.out⟩
          · have hci2 := hci
            obtain ⟨a1, c1, W2, r1, b2, hrest⟩ := give_build HRK.out.hd hk (by omega) y u (off := k * 3) (fun e => absurd e hlt)
            have R1 := Lib.hid r1
            have HB2 := Lib.hid b2
            have HREST := Lib.hid hrest
            clear r1 b2 hrest
            go_upto_region 9 with (first | (at_builtin; refine append_stepW rfl _ _ 59 rfl _ _ _ _ rfl rfl (R1.out _) ?_) | fail)
            have hcon := rbit_is m HM.out.1 HM.out.2 W2 u HU0.out
            go_wp2_with fail
            refine (show Calls Try.prog _ _ _ _ from hcon).mono ?_
            rintro e W3 ⟨rfl, hb3⟩
            obtain ⟨a2, c2, W4, a3, c3, W6, r2, b4, r3, q3, o3, b6⟩ := HREST.out W3 hb3
            simp only [Nat.sub_self] at r3
            have R2 := Lib.hid r2
            have R3 := Lib.hid r3
            obtain ⟨f0, f1, f2, fl⟩ := (HRK.out.below b4).cells
            have HK6 := HRK.out.below b6
            obtain ⟨f3, f4, f5, fm⟩ := HK6.cells
            have HF1 := Lib.hid f4
            have HFM := Lib.hid fm
            have hz := HK6.lit.fz 1
            have hts := Touch.setCell W6 (F := fun j => j = x) rfl 1 (.slice a3 (k + 1) c3)
            have hst := hts.stay (G := fun j => j ≠ x) (fun j hj e => hj e)
            have HE : Hid (RkM (W6.setCell ⟨x, 1, none⟩ (.slice a3 (k + 1) c3)) x (.slice a3 (k + 1) c3) t ⟨A.c, giveL A.hd y m, A.wt⟩ ∧ (∀ j, Value.ownBlock (.slice a3 (k + 1) c3) = some j → (Value.slice (some ⟨b, 0, none⟩) k c).ownBlock = some j ∨ w.heap.size ≤ j) ∧ Touch (fun j => j = x ∨ (Value.slice (some ⟨b, 0, none⟩) k c).ownBlock = some j) w (W6.setCell ⟨x, 1, none⟩ (.slice a3 (k + 1) c3))) := Lib.hid ⟨⟨HK6.lit.set 1 _, by
                show RowO true _ _ (giveL A.hd y m)
                rw [giveL_mid HLO.out HHI.out, HU0.out]
                exact RowO.stay q3 hst (fun j hj => by have := o3 j hj; have := HRK.out.lit.lt; omega), HK6.wt.stay hst (fun j hj => HK6.ownW j hj), fun j hj => ⟨by have := o3 j hj; have := HRK.out.lit.lt; omega, fun e => by have := o3 j hj; have := HRK.out.wt.lt j e; omega⟩, HRK.out.ownW⟩, fun j hj => .inr (o3 j hj), (Touch.of_below b6).trans hts (fun j _ hj => .inl hj)⟩
            clear hcon hb3 r2 r3 q3 o3 b4 b6 HK6 hts hst HREST HB2 R1 f3 f4 f5 fm
            go_upto_region 10 with (first | (at_builtin; refine append_stepW rfl _ _ 59 rfl _ _ _ _ rfl rfl (R2.out _) ?_) | fail)
            have g3 := HF1.out
            have g4 := HFM.out
            go_wp2_with (first | (at_builtin; refine append_stepW rfl _ _ 59 rfl _ _ _ _ rfl rfl (R3.out _) ?_) | fail)
            go_end0
            exact ⟨rfl, _, HE.out⟩

end Go.Proofs.Ytjjhmfpdbjflmaa
