/-
  The law XidPlays, walked.
-/
import Derived.Test.YtebkcejamleojaaYRef3
import Derived.Test.YtebkcejamleojaaYPar
namespace Go.Proofs.Ytebkcejamleojaa
open Go.RowKit
set_option linter.unusedVariables false

/-- Both tables beside each other. -/
structure Pair (w W : World) (t : Nat) (T : Tb) (F : Nat → Prop) (x : Nat) (X : Tb) (Fx : Nat → Prop) : Prop where
  one : One w W t T F
  ref : IsR W x X Fx
  dis : ∀ k, F k → ¬ Fx k
  far : ∀ k, Fx k → w.heap.size ≤ k

section
variable {w W W' : World} {t x : Nat} {T X T' : Tb} {F Fx : Nat → Prop}
theorem Pair.below (h : Pair w W t T F x X Fx) (hb : Below W.heap.size W W') : Pair w W' t T F x X Fx := ⟨h.one.below hb, h.ref.below hb, h.dis, h.far⟩
theorem Pair.stepT {v : Value} {e : Ending} (h : Pair w W t T F x X Fx) (hn : Next w W t F T' v e W') : ∃ F', e = .returned v ∧ Pair w W' t T' F' x X Fx := by
  obtain ⟨F', he, h1, h2, h3⟩ := hn
  exact ⟨F', he, h1, h.ref.stay (h2.stay fun k hk hf => h.dis k hf hk), fun k hk hx => (h3 k hk).elim (fun hf => h.dis k hf hx) (fun hl => by have := h.ref.lt k hx; omega), h.far⟩
theorem Pair.stepR {v : Value} {e : Ending} (h : Pair w W t T F x X Fx) (hn : EndR W x Fx T' v e W') : ∃ Fx', e = .returned v ∧ Pair w W' t T F x T' Fx' := by
  obtain ⟨F', he, h1, h2, h3⟩ := hn
  exact ⟨F', he, ⟨h.one.is.stay (h3.stay fun k hk hf => h.dis k hk hf), h.one.far, h.one.bel.trans (h3.below h.far h.one.bel.size)⟩, h1, fun k hk hx => (h2 k hx).elim (fun hf => h.dis k hk hf) (fun hl => by have := h.one.is.lt k hk; omega), fun k hk => (h2 k hk).elim (h.far k) (fun hl => Nat.le_trans h.one.bel.size hl)⟩
end

theorem get_stp' {l : List Stp} {i : Nat} (h : i < l.length) : ∃ s, l[i]? = some s := ⟨l[i], by simp [h]⟩
theorem run_take' {T : Tb} {l : List Stp} {i : Nat} {s : Stp} (h : l[i]? = some s) : T.run (l.take (i + 1)) = (T.run (l.take i)).stp s.kind s.id := by
  rw [List.take_add_one, h]
  exact Tb.run_snoc _ _ _
theorem run_small' {l : List Stp} {n i : Nat} (hn : l.length = n) (h : n ≤ 80) : (Tb.new.run (l.take i)).n ≤ 80 ∧ (Tb.new.run (l.take i)).last ≤ 80 := by
  have := Tb.Small.run Tb.new_small (l.take i)
  have hl : (l.take i).length ≤ 80 := by rw [List.length_take]; omega
  exact ⟨by have := this.1; omega, by have := this.2; omega⟩
theorem i64s {v : Int} {n : Nat} (h1 : -1 ≤ v) (h2 : v ≤ n + 2) (hn : n ≤ 1000) : I64 v := by unfold I64; omega

set_option maxRecDepth 100000 in
set_option maxHeartbeats 8000000 in
theorem xplays_large (a0 : Option Addr) (c0 n0 : Nat) (l0 : List Stp) (hn0 : l0.length = n0) (w : World) (hs0 : SlSt w a0 c0 l0) (hz : 60 < n0) :
    Calls Try.prog 4 #[.slice a0 n0 c0] w fun e w' => e = .returned (.bool true) ∧ Below w.heap.size w w' := by
  have hB := Below.refl w.heap.size w
  have hz2 : (60 : Int) < n0 := by omega
  clear hn0 hs0
  go_enter Try.func4, Try.ntmps4
  go_wp2_with fail
  go_ret
  exact ⟨rfl, hB⟩

set_option maxRecDepth 100000 in
set_option maxHeartbeats 8000000 in
theorem xplays_main (a0 : Option Addr) (c0 n0 : Nat) (l0 : List Stp) (hn0 : l0.length = n0) (w : World) (hs0 : SlSt w a0 c0 l0) (hz : n0 ≤ 60) :
    Calls Try.prog 4 #[.slice a0 n0 c0] w fun e w' => e = .returned (.bool true) ∧ Below w.heap.size w w' := by
  have hz2 : ¬ (60 : Int) < n0 := by omega
  have HN60 := Lib.hid hz
  have HS := Lib.hid hs0
  have HN := Lib.hid hn0
  have HB0 := Lib.hid (Below.refl w.heap.size w)
  clear hs0 hn0
  go_enter Try.func4, Try.ntmps4
  have hcon := one_new (w0 := w) HB0.out
  go_wp2_with fail
  refine (show Calls Try.prog _ _ _ _ from hcon).mono ?_
  rintro e w1 ⟨t, F0, rfl, h1, -, -⟩
  have HO := Lib.hid h1
  clear hcon h1 HB0
  have hcon := newR_is w1
  go_wp2_with fail
  refine (show Calls Try.prog _ _ _ _ from hcon).mono ?_
  rintro e w2 ⟨x, Fx0, rfl, h2, hfar, hb⟩
  have HP : Hid (Pair w w2 t Tb.new F0 x Tb.new Fx0) := Lib.hid ⟨HO.out.below hb, h2, fun k hk hx => by have := HO.out.is.lt k hk; have := hfar k hx; omega, fun k hk => Nat.le_trans HO.out.bel.size (hfar k hk)⟩
  clear hcon h2 hfar hb HO
  go_wp2_with fail
  go_loopg [5] n0 (fun gg s5 wr => ∃ (i : Nat) (F Fx : Nat → Prop), s5 = .int .i64 i ∧ i ≤ n0 ∧ n0 - i ≤ gg ∧ Hid (Pair w wr t (Tb.new.run (l0.take i)) F x (Tb.new.run (l0.take i)) Fx))
  case atStart => exact ⟨0, F0, Fx0, rfl, Nat.zero_le _, by omega, HP⟩
  case round =>
    obtain ⟨i, F, Fx, rfl, hin, hgg, HPR⟩ := hrel
    clear HP
    obtain ⟨T, hT⟩ : ∃ T, Tb.new.run (l0.take i) = T := ⟨_, rfl⟩
    have hsm := run_small' (i := i) HN.out (by have := HN60.out; omega)
    have hok := Tb.new_ok.run (l0.take i)
    rw [hT] at HPR hsm hok
    by_cases hlt : i < n0
    · have hltz : (i : Int) < (n0 : Int) := by omega
      obtain ⟨st, hst⟩ := get_stp' (l := l0) (i := i) (by rw [HN.out]; exact hlt)
      obtain ⟨sb, so, rfl, d0, d1, d2⟩ := at_st (HS.out.below HPR.out.one.bel) hst
      have hwf := HS.out.wf st (List.mem_of_getElem? hst)
      have hlc : n0 ≤ c0 := by have := HS.out.lc; rw [HN.out] at this; exact this
      have hrun := run_take' (T := Tb.new) hst
      rw [hT] at hrun
      obtain ⟨va, hva⟩ : ∃ va, T.stpI st.kind st.id = va := ⟨_, rfl⟩
      obtain ⟨ve, hve⟩ : ∃ ve, T.stpE st.kind st.id = ve := ⟨_, rfl⟩
      obtain ⟨U, hU⟩ : ∃ U, T.stp st.kind st.id = U := ⟨_, rfl⟩
      have hdo := fun (W : World) (hb : Below wr.heap.size wr W) => one_do (HPR.out.below hb).one (by omega) (by omega) st.kind st.id va ve hwf.1 hwf.2 hva hve hU
      rw [hU] at hrun
      have HRUN := Lib.hid hrun
      have HGS := Lib.hid hst
      have HWF := Lib.hid hwf
      have HOKT := Lib.hid hok
      have HOK : Hid U.Ok := Lib.hid (by rw [← hU]; exact hok.stp st.kind st.id)
      have HSM : Hid (U.n ≤ 81) := Lib.hid (by have := (show T.Small 80 from hsm).stp st.kind st.id; rw [hU] at this; exact this.1)
      obtain ⟨u, hu⟩ : ∃ u, U.n = u := ⟨_, rfl⟩
      have HU := Lib.hid hu
      obtain ⟨la, hla⟩ : ∃ la : Int, (U.last : Int) = la := ⟨_, rfl⟩
      have HLA := Lib.hid hla
      have HANS := Lib.hid (And.intro hva (And.intro hve hU))
      have HSM0 := Lib.hid hsm
      have hcon := hdo wr (Below.refl _ _)
      clear hwf hrun hva hve hdo hst hok hsm hT hu hla hU
      go_wp2_with fail
      refine (show Calls Try.prog _ _ _ _ from hcon).mono ?_
      intro e w3 hnx
      obtain ⟨F2, rfl, hp3⟩ := HPR.out.stepT hnx
      have HP3 := Lib.hid hp3
      have hst3 : sb < w3.heap.size ∧ w3.cell? ⟨sb, so + i * 2, none⟩ = some (.int .u8 st.kind) ∧ w3.cell? ⟨sb, so + i * 2 + 1, none⟩ = some (.int .i64 st.id) := by
        obtain ⟨b', o', e', d0, d1, d2⟩ := at_st (HS.out.below hp3.one.bel) (l := l0) (i := i) (s := st) HGS.out
        cases e'
        exact ⟨d0, d1, d2⟩
      obtain ⟨e0, e1, e2⟩ := hst3
      clear d0 d1 d2 hnx hp3 hcon HPR
      by_cases hk0 : st.kind = 0
      · have HC : Hid (Calls Try.prog 24 #[.pointer (some ⟨x, 0, none⟩), .int .i64 st.id] w3 fun e w' => EndR w3 x Fx U (.tuple #[.int .i64 va, .int .i64 ve]) e w') := Lib.hid (by
          obtain ⟨h1, h2, h3⟩ := HANS.out
          rw [hk0] at h1 h2 h3
          unfold Tb.stpI at h1; unfold Tb.stpE at h2; unfold Tb.stp at h3
          rw [if_pos rfl] at h1 h2 h3
          have := begR_is w3 x T Fx HOKT.out (by have := HSM0.out; omega) st.id HWF.out.2 HP3.out.ref
          rw [h1, h2, h3] at this
          exact this)
        have hcon := HC.out
        go_wp2_with fail
        refine (show Calls Try.prog _ _ _ _ from hcon).mono ?_
        intro e w4 hnx
        obtain ⟨Fx2, rfl, hp4⟩ := HP3.out.stepR hnx
        have HP := Lib.hid hp4
        clear e0 e1 e2 hnx hp4 hcon HP3
        obtain ⟨ra, rc, o0, o1, o2, o3, o4⟩ := HP.out.ref.open
        rw [HU.out] at o1
        have HRD : Hid (∀ W', Below w4.heap.size w4 W' → x < W'.heap.size ∧ W'.cell? ⟨x, 0, none⟩ = some (.slice ra u rc)) := Lib.hid (fun W' hb => ⟨Nat.lt_of_lt_of_le o0 hb.size, by rw [hb.cell o0]; exact o1⟩)
        clear o0 o1 o2 o3 o4
        go_upto_region 17 with (fail)
        have hdr := below_drw w4
        try simp only [List.append_eq, List.cons_append, List.nil_append]
        refine RX.wp_region_plan (fun w w' => Below w.heap.size w w') [.it (.int .i64 va), .it (.int .i64 va), .it (.bool false), .it (.bool false), .it (.int .i64 ve), .it (.int .i64 ve), .it (.bool false), .it (.bool false), .it (.bool false), .it (.pointer (some ⟨t, 0, none⟩)), .it (.int .i64 la), .it (.pointer (some ⟨x, 0, none⟩)), .it (.int .i64 la), .it (.bool false), .it (.bool false), .it (.bool false), .it (.pointer (some ⟨t, 0, none⟩)), .it (.int .i64 (u : Int)), .it (.pointer (some ⟨x, 0, none⟩)), .it (.pointer (some ⟨x, 0, none⟩)), .it (.pointer (some ⟨x, 0, none⟩)), .it (.slice ra u rc), .it (.int .i64 (u : Int)), .it (.bool false), .it (.bool false)] (by kernel_rfl) (by kernel_rfl) (fun _ => Below.refl _ _) (fun _ _ _ => below_tr) ?_
        refine RX.seqP_value (fun _ => Below.refl _ _) _ (by first | rfl | simp) (fun w' hw' hctx => by (go_simp); (try first | with_reducible rfl | simp)) ?_
        simp only [Act.put, List.setIfInBounds_toArray, List.set_cons_zero, List.set_cons_succ]
        refine RX.seqP_value (fun _ => Below.refl _ _) _ (by first | rfl | simp) (fun w' hw' hctx => by (go_simp); (try first | with_reducible rfl | simp)) ?_
        simp only [Act.put, List.setIfInBounds_toArray, List.set_cons_zero, List.set_cons_succ]
        refine RX.seqP_value (fun _ => Below.refl _ _) _ (by first | rfl | simp) (fun w' hw' hctx => by (go_simp); (try first | with_reducible rfl | simp)) ?_
        simp only [Act.put, List.setIfInBounds_toArray, List.set_cons_zero, List.set_cons_succ]
        refine RX.seqP_value (fun _ => Below.refl _ _) _ (by first | rfl | simp) (fun w' hw' hctx => by (go_simp); (try first | with_reducible rfl | simp)) ?_
        simp only [Act.put, List.setIfInBounds_toArray, List.set_cons_zero, List.set_cons_succ]
        refine RX.seqP_value (fun _ => Below.refl _ _) _ (by first | rfl | simp) (fun w' hw' hctx => by (go_simp); (try first | with_reducible rfl | simp)) ?_
        simp only [Act.put, List.setIfInBounds_toArray, List.set_cons_zero, List.set_cons_succ]
        refine RX.seqP_value (fun _ => Below.refl _ _) _ (by first | rfl | simp) (fun w' hw' hctx => by (go_simp); (try first | with_reducible rfl | simp)) ?_
        simp only [Act.put, List.setIfInBounds_toArray, List.set_cons_zero, List.set_cons_succ]
        refine RX.seqP_value (fun _ => Below.refl _ _) _ (by first | rfl | simp) (fun w' hw' hctx => by (go_simp); (try first | with_reducible rfl | simp)) ?_
        simp only [Act.put, List.setIfInBounds_toArray, List.set_cons_zero, List.set_cons_succ]
        refine RX.seqP_value (fun _ => Below.refl _ _) _ (by first | rfl | simp) (fun w' hw' hctx => by (go_simp); (try first | with_reducible rfl | simp)) ?_
        simp only [Act.put, List.setIfInBounds_toArray, List.set_cons_zero, List.set_cons_succ]
        refine RX.seqP_value (fun _ => Below.refl _ _) _ (by first | rfl | simp) (fun w' hw' hctx => by (go_simp); (try first | with_reducible rfl | simp)) ?_
        simp only [Act.put, List.setIfInBounds_toArray, List.set_cons_zero, List.set_cons_succ]
        refine RX.seqP_value (fun _ => Below.refl _ _) _ (by first | rfl | simp) (fun w' hw' hctx => by (go_simp); (try first | with_reducible rfl | simp)) ?_
        simp only [Act.put, List.setIfInBounds_toArray, List.set_cons_zero, List.set_cons_succ]
        refine RX.seqP_call (17) #[.pointer (some ⟨t, 0, none⟩)] (.int .i64 la) (by first | rfl | simp) (fun w' hw' hctx => ?_) (fun w' hw' hctx => one_last (HP.out.below (below_tr hdr hw')).one la HLA.out) ?_
        · go_simp
        simp only [Act.put, List.setIfInBounds_toArray, List.set_cons_zero, List.set_cons_succ]
        refine RX.seqP_value (fun _ => Below.refl _ _) _ (by first | rfl | simp) (fun w' hw' hctx => by (go_simp); (try first | with_reducible rfl | simp)) ?_
        simp only [Act.put, List.setIfInBounds_toArray, List.set_cons_zero, List.set_cons_succ]
        refine RX.seqP_call (27) #[.pointer (some ⟨x, 0, none⟩)] (.int .i64 la) (by first | rfl | simp) (fun w' hw' hctx => ?_) (fun w' hw' hctx => (by have h := lastR_is w' x U Fx2 (HP.out.below (below_tr hdr hw')).ref; rwa [HLA.out] at h : Calls Try.prog 27 #[.pointer (some ⟨x, 0, none⟩)] w' fun e w'' => e = .returned (.int .i64 la) ∧ Below w'.heap.size w' w'')) ?_
        · go_simp
        simp only [Act.put, List.setIfInBounds_toArray, List.set_cons_zero, List.set_cons_succ]
        refine RX.seqP_value (fun _ => Below.refl _ _) _ (by first | rfl | simp) (fun w' hw' hctx => by (go_simp); (try first | with_reducible rfl | simp)) ?_
        simp only [Act.put, List.setIfInBounds_toArray, List.set_cons_zero, List.set_cons_succ]
        refine RX.seqP_value (fun _ => Below.refl _ _) _ (by first | rfl | simp) (fun w' hw' hctx => by (go_simp); (try first | with_reducible rfl | simp)) ?_
        simp only [Act.put, List.setIfInBounds_toArray, List.set_cons_zero, List.set_cons_succ]
        refine RX.seqP_value (fun _ => Below.refl _ _) _ (by first | rfl | simp) (fun w' hw' hctx => by (go_simp); (try first | with_reducible rfl | simp)) ?_
        simp only [Act.put, List.setIfInBounds_toArray, List.set_cons_zero, List.set_cons_succ]
        refine RX.seqP_value (fun _ => Below.refl _ _) _ (by first | rfl | simp) (fun w' hw' hctx => by (go_simp); (try first | with_reducible rfl | simp)) ?_
        simp only [Act.put, List.setIfInBounds_toArray, List.set_cons_zero, List.set_cons_succ]
        refine RX.seqP_call (18) #[.pointer (some ⟨t, 0, none⟩)] (.int .i64 (u : Int)) (by first | rfl | simp) (fun w' hw' hctx => ?_) (fun w' hw' hctx => one_len (HP.out.below (below_tr hdr hw')).one (u : Int) (by rw [HU.out])) ?_
        · go_simp
        simp only [Act.put, List.setIfInBounds_toArray, List.set_cons_zero, List.set_cons_succ]
        refine RX.seqP_value (fun _ => Below.refl _ _) _ (by first | rfl | simp) (fun w' hw' hctx => by (go_simp); (try first | with_reducible rfl | simp)) ?_
        simp only [Act.put, List.setIfInBounds_toArray, List.set_cons_zero, List.set_cons_succ]
        refine RX.seqP_value (fun _ => Below.refl _ _) _ (by first | rfl | simp) (fun w' hw' hctx => by (go_simp); (try first | with_reducible rfl | simp)) ?_
        simp only [Act.put, List.setIfInBounds_toArray, List.set_cons_zero, List.set_cons_succ]
        refine RX.seqP_value (fun _ => Below.refl _ _) _ (by first | rfl | simp) (fun w' hw' hctx => by (go_simp); (try first | with_reducible rfl | simp)) ?_
        simp only [Act.put, List.setIfInBounds_toArray, List.set_cons_zero, List.set_cons_succ]
        refine RX.seqP_value (fun _ => Below.refl _ _) _ (by first | rfl | simp) (fun w' hw' hctx => ?_) ?_
        · obtain ⟨e3, e4⟩ := HRD.out w' (below_tr hdr hw')
          go_simp
          try first | with_reducible rfl | simp
        simp only [Act.put, List.setIfInBounds_toArray, List.set_cons_zero, List.set_cons_succ]
        refine RX.seqP_value (fun _ => Below.refl _ _) _ (by first | rfl | simp) (fun w' hw' hctx => by (go_simp); (try first | with_reducible rfl | simp)) ?_
        simp only [Act.put, List.setIfInBounds_toArray, List.set_cons_zero, List.set_cons_succ]
        refine RX.seqP_value (fun _ => Below.refl _ _) _ (by first | rfl | simp) (fun w' hw' hctx => by (go_simp); (try first | with_reducible rfl | simp)) ?_
        simp only [Act.put, List.setIfInBounds_toArray, List.set_cons_zero, List.set_cons_succ]
        refine RX.seqP_value (fun _ => Below.refl _ _) _ (by first | rfl | simp) (fun w' hw' hctx => by (go_simp); (try first | with_reducible rfl | simp)) ?_
        simp only [Act.put, List.setIfInBounds_toArray, List.set_cons_zero, List.set_cons_succ]
        refine RX.seqP_nil (fun w5 hR hctx _ => ?_)
        have hb5 := below_tr hdr hR
        clear hctx hR
        have HP5 := Lib.hid (HP.out.below hb5)
        clear hb5 hdr HP HRD
        have HP := HP5
        clear HP5
        go_wp2_with fail
        go_loopg [10] (u + 3) (fun gg s10 wr => ∃ (v : Int), s10 = .int .i64 v ∧ -1 ≤ v ∧ v ≤ u + 2 ∧ (u + 2 - v).toNat ≤ gg ∧ Hid (Pair w wr t U F2 x U Fx2))
        case atStart => exact ⟨-1, rfl, by omega, by omega, by omega, HP⟩
        case round =>
          obtain ⟨v, rfl, hv1, hv2, hvg, HP0⟩ := hrel
          clear HP
          have hu := HU.out
          have hsm := HSM.out
          obtain ⟨a9, c9, o0, o1, o2, o3, o4⟩ := HP0.out.ref.open
          rw [hu] at o1
          have HUW : Hid (wrap64 ((u : Int) + 1) = (u : Int) + 1) := Lib.hid (wr0 (by omega))
          have hv6 : I64 v := i64s hv1 hv2 (by omega)
          have hu8 : U.n ≤ 1000 := by omega
          clear o2 o3 o4
          have huw := HUW.out
          by_cases hlt2 : v ≤ u + 1
          · obtain ⟨qs, hqs⟩ : ∃ q, U.g U.st v = q := ⟨_, rfl⟩
            obtain ⟨qt, hqt⟩ : ∃ q, U.g U.top v = q := ⟨_, rfl⟩
            obtain ⟨qc, hqc⟩ : ∃ q, U.cnt v = q := ⟨_, rfl⟩
            obtain ⟨qn, hqn⟩ : ∃ q, U.numI v = q := ⟨_, rfl⟩
            have HQ := Lib.hid (And.intro hqs (And.intro hqt (And.intro hqc (And.intro hqn (And.intro hv6 hu8)))))
            have HV := Lib.hid (And.intro hv1 (And.intro hv2 (And.intro hvg hlt2)))
            clear hqs hqt hqc hqn hv6 hu8 hu hsm hv1 hv2 hvg
            have C1 := Lib.hid (show Calls Try.prog _ _ _ _ from one_state HP0.out.one v qs HQ.out.2.2.2.2.1 HQ.out.1)
            go_wp2_with fail
            refine C1.out.mono ?_
            rintro e v1 ⟨rfl, hb⟩
            have HP1 := Lib.hid (HP0.out.below hb)
            clear hb HP0 C1 o0 o1
            have C2 := Lib.hid (show Calls Try.prog _ _ _ _ from (by have h := stR_is v1 x U Fx2 v HQ.out.2.2.2.2.1 HP1.out.ref; rwa [HQ.out.1] at h : Calls Try.prog 28 #[.pointer (some ⟨x, 0, none⟩), .int .i64 v] v1 fun e w' => e = .returned (.int .u8 qs) ∧ Below v1.heap.size v1 w'))
            go_wp2_with fail
            refine C2.out.mono ?_
            rintro e v2 ⟨rfl, hb⟩
            have HP2 := Lib.hid (HP1.out.below hb)
            clear hb HP1 C2
            have C3 := Lib.hid (show Calls Try.prog _ _ _ _ from one_top HP2.out.one v qt HQ.out.2.2.2.2.1 HQ.out.2.1)
            go_wp2_with fail
            refine C3.out.mono ?_
            rintro e v3 ⟨rfl, hb⟩
            have HP3 := Lib.hid (HP2.out.below hb)
            clear hb HP2 C3
            have C4 := Lib.hid (show Calls Try.prog _ _ _ _ from (by have h := topR_is v3 x U Fx2 HQ.out.2.2.2.2.2 v HQ.out.2.2.2.2.1 HOK.out HP3.out.ref; rwa [HQ.out.2.1] at h : Calls Try.prog 29 #[.pointer (some ⟨x, 0, none⟩), .int .i64 v] v3 fun e w' => e = .returned (.int .i64 qt) ∧ Below v3.heap.size v3 w'))
            go_wp2_with fail
            refine C4.out.mono ?_
            rintro e v4 ⟨rfl, hb⟩
            have HP4 := Lib.hid (HP3.out.below hb)
            clear hb HP3 C4
            have C5 := Lib.hid (show Calls Try.prog _ _ _ _ from one_counts HP4.out.one v qc HQ.out.2.2.2.2.1 HQ.out.2.2.1)
            go_wp2_with fail
            refine C5.out.mono ?_
            rintro e v5 ⟨rfl, hb⟩
            have HP5 := Lib.hid (HP4.out.below hb)
            clear hb HP4 C5
            have C6 := Lib.hid (show Calls Try.prog _ _ _ _ from countsR_is v5 x U Fx2 HQ.out.2.2.2.2.2 v HQ.out.2.2.2.2.1 HOK.out HP5.out.ref qc HQ.out.2.2.1)
            go_wp2_with fail
            refine C6.out.mono ?_
            rintro e v6 ⟨rfl, hb⟩
            have HP6 := Lib.hid (HP5.out.below hb)
            clear hb HP5 C6
            have C7 := Lib.hid (show Calls Try.prog _ _ _ _ from one_number HP6.out.one HQ.out.2.2.2.2.2 v qn HQ.out.2.2.2.2.1 HQ.out.2.2.2.1)
            go_wp2_with fail
            refine C7.out.mono ?_
            rintro e v7 ⟨rfl, hb⟩
            have HP7 := Lib.hid (HP6.out.below hb)
            clear hb HP6 C7
            have C8 := Lib.hid (show Calls Try.prog _ _ _ _ from (by have h := numR_is v7 x U Fx2 HQ.out.2.2.2.2.2 v HQ.out.2.2.2.2.1 HOK.out HP7.out.ref; rwa [HQ.out.2.2.2.1] at h : Calls Try.prog 31 #[.pointer (some ⟨x, 0, none⟩), .int .i64 v] v7 fun e w' => e = .returned (.int .i64 qn) ∧ Below v7.heap.size v7 w'))
            go_wp2_with fail
            refine C8.out.mono ?_
            rintro e v8 ⟨rfl, hb⟩
            have HP8 := Lib.hid (HP7.out.below hb)
            clear hb HP7 C8
            have hvw : wrap64 (v + 1) = v + 1 := wr0 (by have := HV.out; have := HSM.out; have := HU.out; omega)
            clear huw
            go_wp2_with fail
            clear hvw
            go_roundg (u + 2 - (v + 1)).toNat
            case measure => have := HV.out; omega
            case rel => exact ⟨v + 1, congrArg (Value.int .i64) (wr0 (by have := HV.out; have := HSM.out; have := HU.out; omega)), by have := HV.out; omega, by have := HV.out; omega, Nat.le_refl _, HP8⟩
          · have hlt3 : ¬ v ≤ (u : Int) + 1 := hlt2
            clear hu hsm hv6 hu8
            go_wp2_with fail
            clear huw hlt3 hlt2 o0 o1
            go_roundg (n0 - (i + 1))
            case measure => omega
            case rel =>
              have hr := HRUN.out
              exact ⟨i + 1, F2, Fx2, by exact congrArg (Value.int .i64) (by omega), by omega, by omega, Lib.hid (by rw [hr]; exact HP0.out)⟩
      · have hk0b : (st.kind == 0) = false := by simpa using hk0
        by_cases hk1 : st.kind = 1
        · have HC : Hid (Calls Try.prog 25 #[.pointer (some ⟨x, 0, none⟩), .int .i64 st.id] w3 fun e w' => EndR w3 x Fx U (.int .i64 ve) e w') := Lib.hid (by
            obtain ⟨h1, h2, h3⟩ := HANS.out
            rw [hk1] at h2 h3
            unfold Tb.stpE at h2; unfold Tb.stp at h3
            rw [if_neg (by decide)] at h2 h3
            rw [if_pos rfl] at h3
            have := commitR_is w3 x T Fx HOKT.out (by have := HSM0.out; omega) (by have := HSM0.out; omega) st.id HWF.out.2 HP3.out.ref
            rw [h2, h3] at this
            exact this)
          have hva0 : va = 0 := by
            obtain ⟨h1, h2, h3⟩ := HANS.out
            rw [← h1]; unfold Tb.stpI; rw [if_neg hk0]
          subst hva0
          have hcon := HC.out
          go_wp2_with fail
          refine (show Calls Try.prog _ _ _ _ from hcon).mono ?_
          intro e w4 hnx
          obtain ⟨Fx2, rfl, hp4⟩ := HP3.out.stepR hnx
          have HP := Lib.hid hp4
          clear e0 e1 e2 hnx hp4 hcon HP3
          obtain ⟨ra, rc, o0, o1, o2, o3, o4⟩ := HP.out.ref.open
          rw [HU.out] at o1
          have HRD : Hid (∀ W', Below w4.heap.size w4 W' → x < W'.heap.size ∧ W'.cell? ⟨x, 0, none⟩ = some (.slice ra u rc)) := Lib.hid (fun W' hb => ⟨Nat.lt_of_lt_of_le o0 hb.size, by rw [hb.cell o0]; exact o1⟩)
          clear o0 o1 o2 o3 o4
          go_upto_region 17 with (fail)
          have hdr := below_drw w4
          try simp only [List.append_eq, List.cons_append, List.nil_append]
          refine RX.wp_region_plan (fun w w' => Below w.heap.size w w') [.it (.int .i64 0), .it (.int .i64 0), .it (.bool false), .it (.bool false), .it (.int .i64 ve), .it (.int .i64 ve), .it (.bool false), .it (.bool false), .it (.bool false), .it (.pointer (some ⟨t, 0, none⟩)), .it (.int .i64 la), .it (.pointer (some ⟨x, 0, none⟩)), .it (.int .i64 la), .it (.bool false), .it (.bool false), .it (.bool false), .it (.pointer (some ⟨t, 0, none⟩)), .it (.int .i64 (u : Int)), .it (.pointer (some ⟨x, 0, none⟩)), .it (.pointer (some ⟨x, 0, none⟩)), .it (.pointer (some ⟨x, 0, none⟩)), .it (.slice ra u rc), .it (.int .i64 (u : Int)), .it (.bool false), .it (.bool false)] (by kernel_rfl) (by kernel_rfl) (fun _ => Below.refl _ _) (fun _ _ _ => below_tr) ?_
          refine RX.seqP_value (fun _ => Below.refl _ _) _ (by first | rfl | simp) (fun w' hw' hctx => by (go_simp); (try first | with_reducible rfl | simp)) ?_
          simp only [Act.put, List.setIfInBounds_toArray, List.set_cons_zero, List.set_cons_succ]
          refine RX.seqP_value (fun _ => Below.refl _ _) _ (by first | rfl | simp) (fun w' hw' hctx => by (go_simp); (try first | with_reducible rfl | simp)) ?_
          simp only [Act.put, List.setIfInBounds_toArray, List.set_cons_zero, List.set_cons_succ]
          refine RX.seqP_value (fun _ => Below.refl _ _) _ (by first | rfl | simp) (fun w' hw' hctx => by (go_simp); (try first | with_reducible rfl | simp)) ?_
          simp only [Act.put, List.setIfInBounds_toArray, List.set_cons_zero, List.set_cons_succ]
          refine RX.seqP_value (fun _ => Below.refl _ _) _ (by first | rfl | simp) (fun w' hw' hctx => by (go_simp); (try first | with_reducible rfl | simp)) ?_
          simp only [Act.put, List.setIfInBounds_toArray, List.set_cons_zero, List.set_cons_succ]
          refine RX.seqP_value (fun _ => Below.refl _ _) _ (by first | rfl | simp) (fun w' hw' hctx => by (go_simp); (try first | with_reducible rfl | simp)) ?_
          simp only [Act.put, List.setIfInBounds_toArray, List.set_cons_zero, List.set_cons_succ]
          refine RX.seqP_value (fun _ => Below.refl _ _) _ (by first | rfl | simp) (fun w' hw' hctx => by (go_simp); (try first | with_reducible rfl | simp)) ?_
          simp only [Act.put, List.setIfInBounds_toArray, List.set_cons_zero, List.set_cons_succ]
          refine RX.seqP_value (fun _ => Below.refl _ _) _ (by first | rfl | simp) (fun w' hw' hctx => by (go_simp); (try first | with_reducible rfl | simp)) ?_
          simp only [Act.put, List.setIfInBounds_toArray, List.set_cons_zero, List.set_cons_succ]
          refine RX.seqP_value (fun _ => Below.refl _ _) _ (by first | rfl | simp) (fun w' hw' hctx => by (go_simp); (try first | with_reducible rfl | simp)) ?_
          simp only [Act.put, List.setIfInBounds_toArray, List.set_cons_zero, List.set_cons_succ]
          refine RX.seqP_value (fun _ => Below.refl _ _) _ (by first | rfl | simp) (fun w' hw' hctx => by (go_simp); (try first | with_reducible rfl | simp)) ?_
          simp only [Act.put, List.setIfInBounds_toArray, List.set_cons_zero, List.set_cons_succ]
          refine RX.seqP_value (fun _ => Below.refl _ _) _ (by first | rfl | simp) (fun w' hw' hctx => by (go_simp); (try first | with_reducible rfl | simp)) ?_
          simp only [Act.put, List.setIfInBounds_toArray, List.set_cons_zero, List.set_cons_succ]
          refine RX.seqP_call (17) #[.pointer (some ⟨t, 0, none⟩)] (.int .i64 la) (by first | rfl | simp) (fun w' hw' hctx => ?_) (fun w' hw' hctx => one_last (HP.out.below (below_tr hdr hw')).one la HLA.out) ?_
          · go_simp
          simp only [Act.put, List.setIfInBounds_toArray, List.set_cons_zero, List.set_cons_succ]
          refine RX.seqP_value (fun _ => Below.refl _ _) _ (by first | rfl | simp) (fun w' hw' hctx => by (go_simp); (try first | with_reducible rfl | simp)) ?_
          simp only [Act.put, List.setIfInBounds_toArray, List.set_cons_zero, List.set_cons_succ]
          refine RX.seqP_call (27) #[.pointer (some ⟨x, 0, none⟩)] (.int .i64 la) (by first | rfl | simp) (fun w' hw' hctx => ?_) (fun w' hw' hctx => (by have h := lastR_is w' x U Fx2 (HP.out.below (below_tr hdr hw')).ref; rwa [HLA.out] at h : Calls Try.prog 27 #[.pointer (some ⟨x, 0, none⟩)] w' fun e w'' => e = .returned (.int .i64 la) ∧ Below w'.heap.size w' w'')) ?_
          · go_simp
          simp only [Act.put, List.setIfInBounds_toArray, List.set_cons_zero, List.set_cons_succ]
          refine RX.seqP_value (fun _ => Below.refl _ _) _ (by first | rfl | simp) (fun w' hw' hctx => by (go_simp); (try first | with_reducible rfl | simp)) ?_
          simp only [Act.put, List.setIfInBounds_toArray, List.set_cons_zero, List.set_cons_succ]
          refine RX.seqP_value (fun _ => Below.refl _ _) _ (by first | rfl | simp) (fun w' hw' hctx => by (go_simp); (try first | with_reducible rfl | simp)) ?_
          simp only [Act.put, List.setIfInBounds_toArray, List.set_cons_zero, List.set_cons_succ]
          refine RX.seqP_value (fun _ => Below.refl _ _) _ (by first | rfl | simp) (fun w' hw' hctx => by (go_simp); (try first | with_reducible rfl | simp)) ?_
          simp only [Act.put, List.setIfInBounds_toArray, List.set_cons_zero, List.set_cons_succ]
          refine RX.seqP_value (fun _ => Below.refl _ _) _ (by first | rfl | simp) (fun w' hw' hctx => by (go_simp); (try first | with_reducible rfl | simp)) ?_
          simp only [Act.put, List.setIfInBounds_toArray, List.set_cons_zero, List.set_cons_succ]
          refine RX.seqP_call (18) #[.pointer (some ⟨t, 0, none⟩)] (.int .i64 (u : Int)) (by first | rfl | simp) (fun w' hw' hctx => ?_) (fun w' hw' hctx => one_len (HP.out.below (below_tr hdr hw')).one (u : Int) (by rw [HU.out])) ?_
          · go_simp
          simp only [Act.put, List.setIfInBounds_toArray, List.set_cons_zero, List.set_cons_succ]
          refine RX.seqP_value (fun _ => Below.refl _ _) _ (by first | rfl | simp) (fun w' hw' hctx => by (go_simp); (try first | with_reducible rfl | simp)) ?_
          simp only [Act.put, List.setIfInBounds_toArray, List.set_cons_zero, List.set_cons_succ]
          refine RX.seqP_value (fun _ => Below.refl _ _) _ (by first | rfl | simp) (fun w' hw' hctx => by (go_simp); (try first | with_reducible rfl | simp)) ?_
          simp only [Act.put, List.setIfInBounds_toArray, List.set_cons_zero, List.set_cons_succ]
          refine RX.seqP_value (fun _ => Below.refl _ _) _ (by first | rfl | simp) (fun w' hw' hctx => by (go_simp); (try first | with_reducible rfl | simp)) ?_
          simp only [Act.put, List.setIfInBounds_toArray, List.set_cons_zero, List.set_cons_succ]
          refine RX.seqP_value (fun _ => Below.refl _ _) _ (by first | rfl | simp) (fun w' hw' hctx => ?_) ?_
          · obtain ⟨e3, e4⟩ := HRD.out w' (below_tr hdr hw')
            go_simp
            try first | with_reducible rfl | simp
          simp only [Act.put, List.setIfInBounds_toArray, List.set_cons_zero, List.set_cons_succ]
          refine RX.seqP_value (fun _ => Below.refl _ _) _ (by first | rfl | simp) (fun w' hw' hctx => by (go_simp); (try first | with_reducible rfl | simp)) ?_
          simp only [Act.put, List.setIfInBounds_toArray, List.set_cons_zero, List.set_cons_succ]
          refine RX.seqP_value (fun _ => Below.refl _ _) _ (by first | rfl | simp) (fun w' hw' hctx => by (go_simp); (try first | with_reducible rfl | simp)) ?_
          simp only [Act.put, List.setIfInBounds_toArray, List.set_cons_zero, List.set_cons_succ]
          refine RX.seqP_value (fun _ => Below.refl _ _) _ (by first | rfl | simp) (fun w' hw' hctx => by (go_simp); (try first | with_reducible rfl | simp)) ?_
          simp only [Act.put, List.setIfInBounds_toArray, List.set_cons_zero, List.set_cons_succ]
          refine RX.seqP_nil (fun w5 hR hctx _ => ?_)
          have hb5 := below_tr hdr hR
          clear hctx hR
          have HP5 := Lib.hid (HP.out.below hb5)
          clear hb5 hdr HP HRD
          have HP := HP5
          clear HP5
          go_wp2_with fail
          go_loopg [10] (u + 3) (fun gg s10 wr => ∃ (v : Int), s10 = .int .i64 v ∧ -1 ≤ v ∧ v ≤ u + 2 ∧ (u + 2 - v).toNat ≤ gg ∧ Hid (Pair w wr t U F2 x U Fx2))
          case atStart => exact ⟨-1, rfl, by omega, by omega, by omega, HP⟩
          case round =>
            obtain ⟨v, rfl, hv1, hv2, hvg, HP0⟩ := hrel
            clear HP
            have hu := HU.out
            have hsm := HSM.out
            obtain ⟨a9, c9, o0, o1, o2, o3, o4⟩ := HP0.out.ref.open
            rw [hu] at o1
            have HUW : Hid (wrap64 ((u : Int) + 1) = (u : Int) + 1) := Lib.hid (wr0 (by omega))
            have hv6 : I64 v := i64s hv1 hv2 (by omega)
            have hu8 : U.n ≤ 1000 := by omega
            clear o2 o3 o4
            have huw := HUW.out
            by_cases hlt2 : v ≤ u + 1
            · obtain ⟨qs, hqs⟩ : ∃ q, U.g U.st v = q := ⟨_, rfl⟩
              obtain ⟨qt, hqt⟩ : ∃ q, U.g U.top v = q := ⟨_, rfl⟩
              obtain ⟨qc, hqc⟩ : ∃ q, U.cnt v = q := ⟨_, rfl⟩
              obtain ⟨qn, hqn⟩ : ∃ q, U.numI v = q := ⟨_, rfl⟩
              have HQ := Lib.hid (And.intro hqs (And.intro hqt (And.intro hqc (And.intro hqn (And.intro hv6 hu8)))))
              have HV := Lib.hid (And.intro hv1 (And.intro hv2 (And.intro hvg hlt2)))
              clear hqs hqt hqc hqn hv6 hu8 hu hsm hv1 hv2 hvg
              have C1 := Lib.hid (show Calls Try.prog _ _ _ _ from one_state HP0.out.one v qs HQ.out.2.2.2.2.1 HQ.out.1)
              go_wp2_with fail
              refine C1.out.mono ?_
              rintro e v1 ⟨rfl, hb⟩
              have HP1 := Lib.hid (HP0.out.below hb)
              clear hb HP0 C1 o0 o1
              have C2 := Lib.hid (show Calls Try.prog _ _ _ _ from (by have h := stR_is v1 x U Fx2 v HQ.out.2.2.2.2.1 HP1.out.ref; rwa [HQ.out.1] at h : Calls Try.prog 28 #[.pointer (some ⟨x, 0, none⟩), .int .i64 v] v1 fun e w' => e = .returned (.int .u8 qs) ∧ Below v1.heap.size v1 w'))
              go_wp2_with fail
              refine C2.out.mono ?_
              rintro e v2 ⟨rfl, hb⟩
              have HP2 := Lib.hid (HP1.out.below hb)
              clear hb HP1 C2
              have C3 := Lib.hid (show Calls Try.prog _ _ _ _ from one_top HP2.out.one v qt HQ.out.2.2.2.2.1 HQ.out.2.1)
              go_wp2_with fail
              refine C3.out.mono ?_
              rintro e v3 ⟨rfl, hb⟩
              have HP3 := Lib.hid (HP2.out.below hb)
              clear hb HP2 C3
              have C4 := Lib.hid (show Calls Try.prog _ _ _ _ from (by have h := topR_is v3 x U Fx2 HQ.out.2.2.2.2.2 v HQ.out.2.2.2.2.1 HOK.out HP3.out.ref; rwa [HQ.out.2.1] at h : Calls Try.prog 29 #[.pointer (some ⟨x, 0, none⟩), .int .i64 v] v3 fun e w' => e = .returned (.int .i64 qt) ∧ Below v3.heap.size v3 w'))
              go_wp2_with fail
              refine C4.out.mono ?_
              rintro e v4 ⟨rfl, hb⟩
              have HP4 := Lib.hid (HP3.out.below hb)
              clear hb HP3 C4
              have C5 := Lib.hid (show Calls Try.prog _ _ _ _ from one_counts HP4.out.one v qc HQ.out.2.2.2.2.1 HQ.out.2.2.1)
              go_wp2_with fail
              refine C5.out.mono ?_
              rintro e v5 ⟨rfl, hb⟩
              have HP5 := Lib.hid (HP4.out.below hb)
              clear hb HP4 C5
              have C6 := Lib.hid (show Calls Try.prog _ _ _ _ from countsR_is v5 x U Fx2 HQ.out.2.2.2.2.2 v HQ.out.2.2.2.2.1 HOK.out HP5.out.ref qc HQ.out.2.2.1)
              go_wp2_with fail
              refine C6.out.mono ?_
              rintro e v6 ⟨rfl, hb⟩
              have HP6 := Lib.hid (HP5.out.below hb)
              clear hb HP5 C6
              have C7 := Lib.hid (show Calls Try.prog _ _ _ _ from one_number HP6.out.one HQ.out.2.2.2.2.2 v qn HQ.out.2.2.2.2.1 HQ.out.2.2.2.1)
              go_wp2_with fail
              refine C7.out.mono ?_
              rintro e v7 ⟨rfl, hb⟩
              have HP7 := Lib.hid (HP6.out.below hb)
              clear hb HP6 C7
              have C8 := Lib.hid (show Calls Try.prog _ _ _ _ from (by have h := numR_is v7 x U Fx2 HQ.out.2.2.2.2.2 v HQ.out.2.2.2.2.1 HOK.out HP7.out.ref; rwa [HQ.out.2.2.2.1] at h : Calls Try.prog 31 #[.pointer (some ⟨x, 0, none⟩), .int .i64 v] v7 fun e w' => e = .returned (.int .i64 qn) ∧ Below v7.heap.size v7 w'))
              go_wp2_with fail
              refine C8.out.mono ?_
              rintro e v8 ⟨rfl, hb⟩
              have HP8 := Lib.hid (HP7.out.below hb)
              clear hb HP7 C8
              have hvw : wrap64 (v + 1) = v + 1 := wr0 (by have := HV.out; have := HSM.out; have := HU.out; omega)
              clear huw
              go_wp2_with fail
              clear hvw
              go_roundg (u + 2 - (v + 1)).toNat
              case measure => have := HV.out; omega
              case rel => exact ⟨v + 1, congrArg (Value.int .i64) (wr0 (by have := HV.out; have := HSM.out; have := HU.out; omega)), by have := HV.out; omega, by have := HV.out; omega, Nat.le_refl _, HP8⟩
            · have hlt3 : ¬ v ≤ (u : Int) + 1 := hlt2
              clear hu hsm hv6 hu8
              go_wp2_with fail
              clear huw hlt3 hlt2 o0 o1
              go_roundg (n0 - (i + 1))
              case measure => omega
              case rel =>
                have hr := HRUN.out
                exact ⟨i + 1, F2, Fx2, by exact congrArg (Value.int .i64) (by omega), by omega, by omega, Lib.hid (by rw [hr]; exact HP0.out)⟩
        · have HC : Hid (Calls Try.prog 26 #[.pointer (some ⟨x, 0, none⟩), .int .i64 st.id] w3 fun e w' => EndR w3 x Fx U (.int .i64 ve) e w') := Lib.hid (by
            obtain ⟨h1, h2, h3⟩ := HANS.out
            unfold Tb.stpE at h2; unfold Tb.stp at h3
            rw [if_neg hk0] at h2 h3
            rw [if_neg hk1] at h3
            have := abortR_is w3 x T Fx HOKT.out (by have := HSM0.out; omega) st.id HWF.out.2 HP3.out.ref
            rw [h2, h3] at this
            exact this)
          have hk1b : (st.kind == 1) = false := by simpa using hk1
          have hva0 : va = 0 := by
            obtain ⟨h1, h2, h3⟩ := HANS.out
            rw [← h1]; unfold Tb.stpI; rw [if_neg hk0]
          subst hva0
          have hcon := HC.out
          go_wp2_with fail
          refine (show Calls Try.prog _ _ _ _ from hcon).mono ?_
          intro e w4 hnx
          obtain ⟨Fx2, rfl, hp4⟩ := HP3.out.stepR hnx
          have HP := Lib.hid hp4
          clear e0 e1 e2 hnx hp4 hcon HP3
          obtain ⟨ra, rc, o0, o1, o2, o3, o4⟩ := HP.out.ref.open
          rw [HU.out] at o1
          have HRD : Hid (∀ W', Below w4.heap.size w4 W' → x < W'.heap.size ∧ W'.cell? ⟨x, 0, none⟩ = some (.slice ra u rc)) := Lib.hid (fun W' hb => ⟨Nat.lt_of_lt_of_le o0 hb.size, by rw [hb.cell o0]; exact o1⟩)
          clear o0 o1 o2 o3 o4
          go_upto_region 17 with (fail)
          have hdr := below_drw w4
          try simp only [List.append_eq, List.cons_append, List.nil_append]
          refine RX.wp_region_plan (fun w w' => Below w.heap.size w w') [.it (.int .i64 0), .it (.int .i64 0), .it (.bool false), .it (.bool false), .it (.int .i64 ve), .it (.int .i64 ve), .it (.bool false), .it (.bool false), .it (.bool false), .it (.pointer (some ⟨t, 0, none⟩)), .it (.int .i64 la), .it (.pointer (some ⟨x, 0, none⟩)), .it (.int .i64 la), .it (.bool false), .it (.bool false), .it (.bool false), .it (.pointer (some ⟨t, 0, none⟩)), .it (.int .i64 (u : Int)), .it (.pointer (some ⟨x, 0, none⟩)), .it (.pointer (some ⟨x, 0, none⟩)), .it (.pointer (some ⟨x, 0, none⟩)), .it (.slice ra u rc), .it (.int .i64 (u : Int)), .it (.bool false), .it (.bool false)] (by kernel_rfl) (by kernel_rfl) (fun _ => Below.refl _ _) (fun _ _ _ => below_tr) ?_
          refine RX.seqP_value (fun _ => Below.refl _ _) _ (by first | rfl | simp) (fun w' hw' hctx => by (go_simp); (try first | with_reducible rfl | simp)) ?_
          simp only [Act.put, List.setIfInBounds_toArray, List.set_cons_zero, List.set_cons_succ]
          refine RX.seqP_value (fun _ => Below.refl _ _) _ (by first | rfl | simp) (fun w' hw' hctx => by (go_simp); (try first | with_reducible rfl | simp)) ?_
          simp only [Act.put, List.setIfInBounds_toArray, List.set_cons_zero, List.set_cons_succ]
          refine RX.seqP_value (fun _ => Below.refl _ _) _ (by first | rfl | simp) (fun w' hw' hctx => by (go_simp); (try first | with_reducible rfl | simp)) ?_
          simp only [Act.put, List.setIfInBounds_toArray, List.set_cons_zero, List.set_cons_succ]
          refine RX.seqP_value (fun _ => Below.refl _ _) _ (by first | rfl | simp) (fun w' hw' hctx => by (go_simp); (try first | with_reducible rfl | simp)) ?_
          simp only [Act.put, List.setIfInBounds_toArray, List.set_cons_zero, List.set_cons_succ]
          refine RX.seqP_value (fun _ => Below.refl _ _) _ (by first | rfl | simp) (fun w' hw' hctx => by (go_simp); (try first | with_reducible rfl | simp)) ?_
          simp only [Act.put, List.setIfInBounds_toArray, List.set_cons_zero, List.set_cons_succ]
          refine RX.seqP_value (fun _ => Below.refl _ _) _ (by first | rfl | simp) (fun w' hw' hctx => by (go_simp); (try first | with_reducible rfl | simp)) ?_
          simp only [Act.put, List.setIfInBounds_toArray, List.set_cons_zero, List.set_cons_succ]
          refine RX.seqP_value (fun _ => Below.refl _ _) _ (by first | rfl | simp) (fun w' hw' hctx => by (go_simp); (try first | with_reducible rfl | simp)) ?_
          simp only [Act.put, List.setIfInBounds_toArray, List.set_cons_zero, List.set_cons_succ]
          refine RX.seqP_value (fun _ => Below.refl _ _) _ (by first | rfl | simp) (fun w' hw' hctx => by (go_simp); (try first | with_reducible rfl | simp)) ?_
          simp only [Act.put, List.setIfInBounds_toArray, List.set_cons_zero, List.set_cons_succ]
          refine RX.seqP_value (fun _ => Below.refl _ _) _ (by first | rfl | simp) (fun w' hw' hctx => by (go_simp); (try first | with_reducible rfl | simp)) ?_
          simp only [Act.put, List.setIfInBounds_toArray, List.set_cons_zero, List.set_cons_succ]
          refine RX.seqP_value (fun _ => Below.refl _ _) _ (by first | rfl | simp) (fun w' hw' hctx => by (go_simp); (try first | with_reducible rfl | simp)) ?_
          simp only [Act.put, List.setIfInBounds_toArray, List.set_cons_zero, List.set_cons_succ]
          refine RX.seqP_call (17) #[.pointer (some ⟨t, 0, none⟩)] (.int .i64 la) (by first | rfl | simp) (fun w' hw' hctx => ?_) (fun w' hw' hctx => one_last (HP.out.below (below_tr hdr hw')).one la HLA.out) ?_
          · go_simp
          simp only [Act.put, List.setIfInBounds_toArray, List.set_cons_zero, List.set_cons_succ]
          refine RX.seqP_value (fun _ => Below.refl _ _) _ (by first | rfl | simp) (fun w' hw' hctx => by (go_simp); (try first | with_reducible rfl | simp)) ?_
          simp only [Act.put, List.setIfInBounds_toArray, List.set_cons_zero, List.set_cons_succ]
          refine RX.seqP_call (27) #[.pointer (some ⟨x, 0, none⟩)] (.int .i64 la) (by first | rfl | simp) (fun w' hw' hctx => ?_) (fun w' hw' hctx => (by have h := lastR_is w' x U Fx2 (HP.out.below (below_tr hdr hw')).ref; rwa [HLA.out] at h : Calls Try.prog 27 #[.pointer (some ⟨x, 0, none⟩)] w' fun e w'' => e = .returned (.int .i64 la) ∧ Below w'.heap.size w' w'')) ?_
          · go_simp
          simp only [Act.put, List.setIfInBounds_toArray, List.set_cons_zero, List.set_cons_succ]
          refine RX.seqP_value (fun _ => Below.refl _ _) _ (by first | rfl | simp) (fun w' hw' hctx => by (go_simp); (try first | with_reducible rfl | simp)) ?_
          simp only [Act.put, List.setIfInBounds_toArray, List.set_cons_zero, List.set_cons_succ]
          refine RX.seqP_value (fun _ => Below.refl _ _) _ (by first | rfl | simp) (fun w' hw' hctx => by (go_simp); (try first | with_reducible rfl | simp)) ?_
          simp only [Act.put, List.setIfInBounds_toArray, List.set_cons_zero, List.set_cons_succ]
          refine RX.seqP_value (fun _ => Below.refl _ _) _ (by first | rfl | simp) (fun w' hw' hctx => by (go_simp); (try first | with_reducible rfl | simp)) ?_
          simp only [Act.put, List.setIfInBounds_toArray, List.set_cons_zero, List.set_cons_succ]
          refine RX.seqP_value (fun _ => Below.refl _ _) _ (by first | rfl | simp) (fun w' hw' hctx => by (go_simp); (try first | with_reducible rfl | simp)) ?_
          simp only [Act.put, List.setIfInBounds_toArray, List.set_cons_zero, List.set_cons_succ]
          refine RX.seqP_call (18) #[.pointer (some ⟨t, 0, none⟩)] (.int .i64 (u : Int)) (by first | rfl | simp) (fun w' hw' hctx => ?_) (fun w' hw' hctx => one_len (HP.out.below (below_tr hdr hw')).one (u : Int) (by rw [HU.out])) ?_
          · go_simp
          simp only [Act.put, List.setIfInBounds_toArray, List.set_cons_zero, List.set_cons_succ]
          refine RX.seqP_value (fun _ => Below.refl _ _) _ (by first | rfl | simp) (fun w' hw' hctx => by (go_simp); (try first | with_reducible rfl | simp)) ?_
          simp only [Act.put, List.setIfInBounds_toArray, List.set_cons_zero, List.set_cons_succ]
          refine RX.seqP_value (fun _ => Below.refl _ _) _ (by first | rfl | simp) (fun w' hw' hctx => by (go_simp); (try first | with_reducible rfl | simp)) ?_
          simp only [Act.put, List.setIfInBounds_toArray, List.set_cons_zero, List.set_cons_succ]
          refine RX.seqP_value (fun _ => Below.refl _ _) _ (by first | rfl | simp) (fun w' hw' hctx => by (go_simp); (try first | with_reducible rfl | simp)) ?_
          simp only [Act.put, List.setIfInBounds_toArray, List.set_cons_zero, List.set_cons_succ]
          refine RX.seqP_value (fun _ => Below.refl _ _) _ (by first | rfl | simp) (fun w' hw' hctx => ?_) ?_
          · obtain ⟨e3, e4⟩ := HRD.out w' (below_tr hdr hw')
            go_simp
            try first | with_reducible rfl | simp
          simp only [Act.put, List.setIfInBounds_toArray, List.set_cons_zero, List.set_cons_succ]
          refine RX.seqP_value (fun _ => Below.refl _ _) _ (by first | rfl | simp) (fun w' hw' hctx => by (go_simp); (try first | with_reducible rfl | simp)) ?_
          simp only [Act.put, List.setIfInBounds_toArray, List.set_cons_zero, List.set_cons_succ]
          refine RX.seqP_value (fun _ => Below.refl _ _) _ (by first | rfl | simp) (fun w' hw' hctx => by (go_simp); (try first | with_reducible rfl | simp)) ?_
          simp only [Act.put, List.setIfInBounds_toArray, List.set_cons_zero, List.set_cons_succ]
          refine RX.seqP_value (fun _ => Below.refl _ _) _ (by first | rfl | simp) (fun w' hw' hctx => by (go_simp); (try first | with_reducible rfl | simp)) ?_
          simp only [Act.put, List.setIfInBounds_toArray, List.set_cons_zero, List.set_cons_succ]
          refine RX.seqP_nil (fun w5 hR hctx _ => ?_)
          have hb5 := below_tr hdr hR
          clear hctx hR
          have HP5 := Lib.hid (HP.out.below hb5)
          clear hb5 hdr HP HRD
          have HP := HP5
          clear HP5
          go_wp2_with fail
          go_loopg [10] (u + 3) (fun gg s10 wr => ∃ (v : Int), s10 = .int .i64 v ∧ -1 ≤ v ∧ v ≤ u + 2 ∧ (u + 2 - v).toNat ≤ gg ∧ Hid (Pair w wr t U F2 x U Fx2))
          case atStart => exact ⟨-1, rfl, by omega, by omega, by omega, HP⟩
          case round =>
            obtain ⟨v, rfl, hv1, hv2, hvg, HP0⟩ := hrel
            clear HP
            have hu := HU.out
            have hsm := HSM.out
            obtain ⟨a9, c9, o0, o1, o2, o3, o4⟩ := HP0.out.ref.open
            rw [hu] at o1
            have HUW : Hid (wrap64 ((u : Int) + 1) = (u : Int) + 1) := Lib.hid (wr0 (by omega))
            have hv6 : I64 v := i64s hv1 hv2 (by omega)
            have hu8 : U.n ≤ 1000 := by omega
            clear o2 o3 o4
            have huw := HUW.out
            by_cases hlt2 : v ≤ u + 1
            · obtain ⟨qs, hqs⟩ : ∃ q, U.g U.st v = q := ⟨_, rfl⟩
              obtain ⟨qt, hqt⟩ : ∃ q, U.g U.top v = q := ⟨_, rfl⟩
              obtain ⟨qc, hqc⟩ : ∃ q, U.cnt v = q := ⟨_, rfl⟩
              obtain ⟨qn, hqn⟩ : ∃ q, U.numI v = q := ⟨_, rfl⟩
              have HQ := Lib.hid (And.intro hqs (And.intro hqt (And.intro hqc (And.intro hqn (And.intro hv6 hu8)))))
              have HV := Lib.hid (And.intro hv1 (And.intro hv2 (And.intro hvg hlt2)))
              clear hqs hqt hqc hqn hv6 hu8 hu hsm hv1 hv2 hvg
              have C1 := Lib.hid (show Calls Try.prog _ _ _ _ from one_state HP0.out.one v qs HQ.out.2.2.2.2.1 HQ.out.1)
              go_wp2_with fail
              refine C1.out.mono ?_
              rintro e v1 ⟨rfl, hb⟩
              have HP1 := Lib.hid (HP0.out.below hb)
              clear hb HP0 C1 o0 o1
              have C2 := Lib.hid (show Calls Try.prog _ _ _ _ from (by have h := stR_is v1 x U Fx2 v HQ.out.2.2.2.2.1 HP1.out.ref; rwa [HQ.out.1] at h : Calls Try.prog 28 #[.pointer (some ⟨x, 0, none⟩), .int .i64 v] v1 fun e w' => e = .returned (.int .u8 qs) ∧ Below v1.heap.size v1 w'))
              go_wp2_with fail
              refine C2.out.mono ?_
              rintro e v2 ⟨rfl, hb⟩
              have HP2 := Lib.hid (HP1.out.below hb)
              clear hb HP1 C2
              have C3 := Lib.hid (show Calls Try.prog _ _ _ _ from one_top HP2.out.one v qt HQ.out.2.2.2.2.1 HQ.out.2.1)
              go_wp2_with fail
              refine C3.out.mono ?_
              rintro e v3 ⟨rfl, hb⟩
              have HP3 := Lib.hid (HP2.out.below hb)
              clear hb HP2 C3
              have C4 := Lib.hid (show Calls Try.prog _ _ _ _ from (by have h := topR_is v3 x U Fx2 HQ.out.2.2.2.2.2 v HQ.out.2.2.2.2.1 HOK.out HP3.out.ref; rwa [HQ.out.2.1] at h : Calls Try.prog 29 #[.pointer (some ⟨x, 0, none⟩), .int .i64 v] v3 fun e w' => e = .returned (.int .i64 qt) ∧ Below v3.heap.size v3 w'))
              go_wp2_with fail
              refine C4.out.mono ?_
              rintro e v4 ⟨rfl, hb⟩
              have HP4 := Lib.hid (HP3.out.below hb)
              clear hb HP3 C4
              have C5 := Lib.hid (show Calls Try.prog _ _ _ _ from one_counts HP4.out.one v qc HQ.out.2.2.2.2.1 HQ.out.2.2.1)
              go_wp2_with fail
              refine C5.out.mono ?_
              rintro e v5 ⟨rfl, hb⟩
              have HP5 := Lib.hid (HP4.out.below hb)
              clear hb HP4 C5
              have C6 := Lib.hid (show Calls Try.prog _ _ _ _ from countsR_is v5 x U Fx2 HQ.out.2.2.2.2.2 v HQ.out.2.2.2.2.1 HOK.out HP5.out.ref qc HQ.out.2.2.1)
              go_wp2_with fail
              refine C6.out.mono ?_
              rintro e v6 ⟨rfl, hb⟩
              have HP6 := Lib.hid (HP5.out.below hb)
              clear hb HP5 C6
              have C7 := Lib.hid (show Calls Try.prog _ _ _ _ from one_number HP6.out.one HQ.out.2.2.2.2.2 v qn HQ.out.2.2.2.2.1 HQ.out.2.2.2.1)
              go_wp2_with fail
              refine C7.out.mono ?_
              rintro e v7 ⟨rfl, hb⟩
              have HP7 := Lib.hid (HP6.out.below hb)
              clear hb HP6 C7
              have C8 := Lib.hid (show Calls Try.prog _ _ _ _ from (by have h := numR_is v7 x U Fx2 HQ.out.2.2.2.2.2 v HQ.out.2.2.2.2.1 HOK.out HP7.out.ref; rwa [HQ.out.2.2.2.1] at h : Calls Try.prog 31 #[.pointer (some ⟨x, 0, none⟩), .int .i64 v] v7 fun e w' => e = .returned (.int .i64 qn) ∧ Below v7.heap.size v7 w'))
              go_wp2_with fail
              refine C8.out.mono ?_
              rintro e v8 ⟨rfl, hb⟩
              have HP8 := Lib.hid (HP7.out.below hb)
              clear hb HP7 C8
              have hvw : wrap64 (v + 1) = v + 1 := wr0 (by have := HV.out; have := HSM.out; have := HU.out; omega)
              clear huw
              go_wp2_with fail
              clear hvw
              go_roundg (u + 2 - (v + 1)).toNat
              case measure => have := HV.out; omega
              case rel => exact ⟨v + 1, congrArg (Value.int .i64) (wr0 (by have := HV.out; have := HSM.out; have := HU.out; omega)), by have := HV.out; omega, by have := HV.out; omega, Nat.le_refl _, HP8⟩
            · have hlt3 : ¬ v ≤ (u : Int) + 1 := hlt2
              clear hu hsm hv6 hu8
              go_wp2_with fail
              clear huw hlt3 hlt2 o0 o1
              go_roundg (n0 - (i + 1))
              case measure => omega
              case rel =>
                have hr := HRUN.out
                exact ⟨i + 1, F2, Fx2, by exact congrArg (Value.int .i64) (by omega), by omega, by omega, Lib.hid (by rw [hr]; exact HP0.out)⟩
    · have hltz : ¬ (i : Int) < (n0 : Int) := by omega
      have HBL := Lib.hid HPR.out.one.bel
      clear hok hsm hT HPR
      go_wp2_with fail
      go_ret
      exact ⟨rfl, HBL.out⟩

theorem xplays_law (a0 : Option Addr) (c0 n0 : Nat) (l0 : List Stp) (hn0 : l0.length = n0) (w : World) (hs0 : SlSt w a0 c0 l0) :
    Calls Try.prog 4 #[.slice a0 n0 c0] w fun e w' => e = .returned (.bool true) ∧ Below w.heap.size w w' := by
  by_cases hz : 60 < n0
  · exact xplays_large a0 c0 n0 l0 hn0 w hs0 hz
  · exact xplays_main a0 c0 n0 l0 hn0 w hs0 (by omega)

end Go.Proofs.Ytebkcejamleojaa
