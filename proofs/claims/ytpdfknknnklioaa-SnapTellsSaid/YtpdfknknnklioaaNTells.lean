/-
  The law SnapTells, walked.
-/
import Derived.Test.YtpdfknknnklioaaRegX
import Derived.Test.YtpdfknknnklioaaNAwake
namespace Go.Proofs.Ytpdfknknnklioaa
open Go.RowKit
set_option linter.unusedVariables false

/-- Both viewers in their blocks, beside both tables: from the world V on only these two blocks have changed. -/
structure Both (w V W : World) (t x ga gb : Nat) (T : Tb) (a m : Int) : Prop where
  from' : ∃ F Fx, Pair w V t T F x T Fx ∧ ¬ F ga ∧ ¬ F gb ∧ ¬ Fx ga ∧ ¬ Fx gb
  ok : T.Ok ∧ T.n ≤ 1000
  far : w.heap.size ≤ ga ∧ w.heap.size ≤ gb ∧ ga ≠ gb
  touch : Touch (fun k => k = ga ∨ k = gb) V W
  la : Lit W ga 33 [.int .i64 a, .int .i64 m]
  lb : Lit W gb 35 [.int .i64 a, .int .i64 m]

theorem rv_now {w : World} {x : Nat} {T : Tb} (h : RV w x T) (m la : Int) (hla : (T.last : Int) = la) : Calls Try.prog 14 #[.pointer (some ⟨x, 0, none⟩), .int .i64 m] w fun e w' => e = .returned (.agg #[.int .i64 la, .int .i64 m]) ∧ Below w.heap.size w w' := nowR_is w x T m h la hla

section
variable {w V W W' : World} {t x ga gb : Nat} {T : Tb} {a m : Int}
theorem Both.below (h : Both w V W t x ga gb T a m) (hb : Below W.heap.size W W') : Both w V W' t x ga gb T a m :=
  ⟨h.from', h.ok, h.far, h.touch.trans (Touch.of_below hb) (fun _ _ h => h), h.la.below hb, h.lb.below hb⟩
theorem Both.tv (h : Both w V W t x ga gb T a m) : TV W (.pointer (some ⟨t, 0, none⟩)) T := by
  obtain ⟨F, Fx, hp, h1, h2, h3, h4⟩ := h.from'
  exact .inl ⟨t, F, rfl, hp.one.is.stay (h.touch.stay fun k hk e => e.elim (fun e => h1 (by rw [← e]; exact hk)) (fun e => h2 (by rw [← e]; exact hk))), by have := h.ok.2; omega⟩
theorem Both.rv (h : Both w V W t x ga gb T a m) : RV W x T := by
  obtain ⟨F, Fx, hp, h1, h2, h3, h4⟩ := h.from'
  exact ⟨Fx, hp.ref.stay (h.touch.stay fun k hk e => e.elim (fun e => h3 (by rw [← e]; exact hk)) (fun e => h4 (by rw [← e]; exact hk))), h.ok⟩
theorem Both.bel (h : Both w V W t x ga gb T a m) : Below w.heap.size w W := by
  obtain ⟨F, Fx, hp, _⟩ := h.from'
  exact hp.one.bel.trans (h.touch.below (fun k e => e.elim (fun e => by rw [e]; exact h.far.1) (fun e => by rw [e]; exact h.far.2.1)) hp.one.bel.size)
theorem Both.put (h : Both w V W t x ga gb T a m) (a' m' : Int) : Both w V (put2 (put2 W ga (.int .i64 a') (.int .i64 m')) gb (.int .i64 a') (.int .i64 m')) t x ga gb T a' m' := by
  have s1 : ∀ (W : World) (o : Nat) (v : Value), Touch (fun k => k = ga ∨ k = gb) W (W.setCell ⟨ga, o, none⟩ v) := fun W o v => Touch.setCell W (.inl rfl) o v
  have s2 : ∀ (W : World) (o : Nat) (v : Value), Touch (fun k => k = ga ∨ k = gb) W (W.setCell ⟨gb, o, none⟩ v) := fun W o v => Touch.setCell W (.inr rfl) o v
  have ta : ∀ (W : World) (v u : Value), Stay (fun k => k = gb) W (put2 W ga v u) := fun W v u => (((Touch.setCell W (F := fun k => k = ga) rfl 0 v).trans (Touch.setCell _ (F := fun k => k = ga) rfl 1 u) (fun _ _ h => h)).stay fun k hk e => h.far.2.2 (by rw [← hk, ← e]))
  have tb : ∀ (W : World) (v u : Value), Stay (fun k => k = ga) W (put2 W gb v u) := fun W v u => (((Touch.setCell W (F := fun k => k = gb) rfl 0 v).trans (Touch.setCell _ (F := fun k => k = gb) rfl 1 u) (fun _ _ h => h)).stay fun k hk e => h.far.2.2 (by rw [← hk, ← e]))
  refine ⟨h.from', h.ok, h.far, ?_, ?_, ?_⟩
  · exact (((h.touch.trans (s1 _ 0 _) (fun _ _ h => h)).trans (s1 _ 1 _) (fun _ _ h => h)).trans (s2 _ 0 _) (fun _ _ h => h)).trans (s2 _ 1 _) (fun _ _ h => h)
  · exact (lit_put2 h.la _ _).stay (tb _ _ _) rfl
  · exact lit_put2 (h.lb.stay (ta _ _ _) rfl) _ _
/-- Both viewers are stored into blocks just made. -/
theorem Both.start {F Fx : Nat → Prop} (hp : Pair w W t T F x T Fx) (hok : T.Ok ∧ T.n ≤ 1000) (a m : Int) : ∃ ga gb V, W.heap.size = ga ∧ W.heap.size + 1 = gb ∧ (W.alloc (.cells #[.int .i64 a, .int .i64 m] 33)).alloc (.cells #[.int .i64 a, .int .i64 m] 35) = V ∧ Both w V V t x ga gb T a m := by
  have hs : (W.alloc (.cells #[.int .i64 a, .int .i64 m] 33)).heap.size = W.heap.size + 1 := by simp
  have hb1 := Below.allocs W (.cells #[.int .i64 a, .int .i64 m] 33)
  have hb2 := Below.allocs (W.alloc (.cells #[.int .i64 a, .int .i64 m] 33)) (.cells #[.int .i64 a, .int .i64 m] 35)
  have l1 := (Lit.new W 33 [.int .i64 a, .int .i64 m]).below hb2
  have l2 := Lit.new (W.alloc (.cells #[.int .i64 a, .int .i64 m] 33)) 35 [.int .i64 a, .int .i64 m]
  rw [hs] at l2
  have hz := hp.one.bel.size
  refine ⟨_, _, _, rfl, rfl, rfl, ⟨F, Fx, hp.below (below_tr hb1 hb2), fun hx => ?_, fun hx => ?_, fun hx => ?_, fun hx => ?_⟩, hok, ⟨hz, by omega, by omega⟩, Touch.refl _ _, l1, l2⟩
  · have := hp.one.is.lt _ hx; omega
  · have := hp.one.is.lt _ hx; omega
  · have := hp.ref.lt _ hx; omega
  · have := hp.ref.lt _ hx; omega
end

set_option maxRecDepth 100000 in
set_option maxHeartbeats 8000000 in
theorem tells_large (a0 : Option Addr) (c0 n0 : Nat) (l0 : List Stp) (hn0 : l0.length = n0) (e1 e2 e3 : Int) (hin1 : I64 e1) (hin2 : I64 e2) (hin3 : I64 e3) (w : World) (hs0 : SlSt w a0 c0 l0) (hz : 200 < n0) :
    Calls Try.prog 3 #[.slice a0 n0 c0, .int .i64 e1, .int .i64 e2, .int .i64 e3] w fun e w' => e = .returned (.bool true) ∧ Below w.heap.size w w' := by
  have hz2 : (200 : Int) < n0 := by omega
  go_enter Try.func3, Try.ntmps3
  have hcon := awake_is w
  go_wp2_with fail
  refine (show Calls Try.prog _ _ _ _ from hcon).mono ?_
  rintro e w1 ⟨rfl, hb⟩
  have HB1 := Lib.hid hb
  clear hcon hb
  go_wp2_with fail
  go_ret
  exact ⟨rfl, HB1.out⟩

set_option maxRecDepth 100000 in
set_option maxHeartbeats 8000000 in
theorem tells_main (a0 : Option Addr) (c0 n0 : Nat) (l0 : List Stp) (hn0 : l0.length = n0) (e1 e2 e3 : Int) (hin1 : I64 e1) (hin2 : I64 e2) (hin3 : I64 e3) (w : World) (hs0 : SlSt w a0 c0 l0) (hz : n0 ≤ 200) :
    Calls Try.prog 3 #[.slice a0 n0 c0, .int .i64 e1, .int .i64 e2, .int .i64 e3] w fun e w' => e = .returned (.bool true) ∧ Below w.heap.size w w' := by
  have hz2 : ¬ (200 : Int) < n0 := by omega
  have HZ := Lib.hid hz
  have HS := Lib.hid hs0
  have HN := Lib.hid hn0
  have HI := Lib.hid hin3
  have HB0 := Lib.hid (Below.refl w.heap.size w)
  clear hs0 hn0 hin1 hin2 hin3 hz
  go_enter Try.func3, Try.ntmps3
  have hcon := one_new (w0 := w) HB0.out
  go_wp2_with fail
  refine (show Calls Try.prog _ _ _ _ from hcon).mono ?_
  rintro e w1 ⟨t, F0, rfl, h1, -, -⟩
  have HO := Lib.hid h1
  clear hcon h1 HB0
  have hcon := newR_is w1
  go_wp2_with fail
  refine (show Calls Try.prog _ _ _ _ from hcon).mono ?_
  rintro e w2 ⟨x, Fx0, rfl, h2, hfar, hb⟩
  have HP : Hid (Pair w w2 t Tb.new F0 x Tb.new Fx0) := Lib.hid ⟨HO.out.below hb, h2, fun k hk hx => by have := HO.out.is.lt k hk; have := hfar k hx; omega, fun k hk => Nat.le_trans HO.out.bel.size (hfar k hk)⟩
  clear hcon h2 hfar hb HO
  go_wp2_with fail
  go_loopg [11] n0 (fun gg s11 wr => ∃ (i : Nat) (F Fx : Nat → Prop), s11 = .int .i64 i ∧ i ≤ n0 ∧ n0 - i ≤ gg ∧ Hid (Pair w wr t (Tb.new.run (l0.take i)) F x (Tb.new.run (l0.take i)) Fx))
  case atStart => exact ⟨0, F0, Fx0, rfl, Nat.zero_le _, by omega, HP⟩
  case round =>
    obtain ⟨i, F, Fx, rfl, hin, hgg, HPR⟩ := hrel
    clear HP
    have hsm := run_small (i := i) (C := 200) Tb.new_small HN.out (by have := HZ.out; omega)
    have hok := Tb.new_ok.run (l0.take i)
    by_cases hlt : i < n0
    · have hltz : (i : Int) < (n0 : Int) := by omega
      obtain ⟨st, hst⟩ := get_stp (l := l0) (i := i) (by rw [HN.out]; exact hlt)
      have hsl := HS.out.below HPR.out.one.bel
      obtain ⟨sb, so, rfl, d0, d1, d2⟩ := at_st hsl hst
      have hwf := hsl.wf st (List.mem_of_getElem? hst)
      have hlc : n0 ≤ c0 := by have := hsl.lc; rw [HN.out] at this; exact this
      have hrun := run_take (T := Tb.new) hst
      obtain ⟨T, hT⟩ : ∃ T, Tb.new.run (l0.take i) = T := ⟨_, rfl⟩
      obtain ⟨U, hU⟩ : ∃ U, Tb.new.run (l0.take (i + 1)) = U := ⟨_, rfl⟩
      rw [hT] at HPR hsm hok hrun
      rw [hU] at hrun
      have HU := Lib.hid hU
      have HGS := Lib.hid hst
      have HSM0 : Hid (T.n ≤ 1000 ∧ T.last ≤ 1000) := Lib.hid ⟨by have := hsm.1; omega, by have := hsm.2; omega⟩
      have HOKT := Lib.hid hok
      have HRUN := Lib.hid hrun
      have HWF := Lib.hid hwf
      have hcon := one_do HPR.out.one HSM0.out.1 HSM0.out.2 st.kind st.id hwf.1 hwf.2 hrun.symm
      clear hwf hrun hst hsm hsl hok hT hU
      go_wp2_with fail
      refine (show Calls Try.prog _ _ _ _ from hcon).mono ?_
      intro e w3 hnx
      obtain ⟨F2, rfl, hp3⟩ := HPR.out.stepT hnx
      have HP3 := Lib.hid hp3
      have hst3 : sb < w3.heap.size ∧ w3.cell? ⟨sb, so + i * 2, none⟩ = some (.int .u8 st.kind) ∧ w3.cell? ⟨sb, so + i * 2 + 1, none⟩ = some (.int .i64 st.id) := by
        obtain ⟨b', o', e', d0, d1, d2⟩ := at_st (HS.out.below hp3.one.bel) (l := l0) (i := i) (s := st) HGS.out
        cases e'
        exact ⟨d0, d1, d2⟩
      obtain ⟨f0, f1, f2⟩ := hst3
      clear d0 d1 d2 hnx hp3 hcon HPR
      have hcon := told_is w3 x T Fx HOKT.out HSM0.out.1 HSM0.out.2 st.kind st.id HWF.out.1 HWF.out.2 HP3.out.ref
      rw [← HRUN.out] at hcon
      go_wp2_with fail
      refine (show Calls Try.prog _ _ _ _ from hcon).mono ?_
      intro e w4 hnx
      obtain ⟨Fx2, rfl, hp4⟩ := HP3.out.stepR hnx
      have HP4 := Lib.hid hp4
      clear hcon hnx hp4 HP3 f0 f1 f2
      go_wp2_with fail
      go_roundg (n0 - (i + 1))
      case measure => omega
      case rel => exact ⟨i + 1, F2, Fx2, by go_num, by omega, Nat.le_refl _, by rw [HU.out]; exact HP4⟩
    · have hltz : ¬ (i : Int) < (n0 : Int) := by omega
      obtain rfl : n0 = i := by omega
      have hfull : l0.take n0 = l0 := List.take_of_length_le (by rw [HN.out]; exact Nat.le_refl _)
      rw [hfull] at HPR hsm hok
      obtain ⟨T, hT⟩ : ∃ T, Tb.new.run l0 = T := ⟨_, rfl⟩
      rw [hT] at HPR hsm hok
      have HSM : Hid (T.n ≤ 1000) := Lib.hid (by have := hsm.1; omega)
      have HOK := Lib.hid hok
      obtain ⟨la, hla⟩ : ∃ la : Int, (T.last : Int) = la := ⟨_, rfl⟩
      have HLA := Lib.hid hla
      clear hfull hsm hok hT hlt hgg hin hla
      have hcon := one_now HPR.out.one HSM.out e2 la HLA.out
      go_wp2_with fail
      refine (show Calls Try.prog _ _ _ _ from hcon).mono ?_
      rintro e w5 ⟨rfl, hb⟩
      have HP5 := Lib.hid (HPR.out.below hb)
      clear hcon hb HPR
      have hcon := rv_now (HP5.out.rv HOK.out HSM.out) e2 la HLA.out
      go_wp2_with fail
      refine (show Calls Try.prog _ _ _ _ from hcon).mono ?_
      rintro e w6 ⟨rfl, hb⟩
      have HP6 := Lib.hid (HP5.out.below hb)
      clear hcon hb HP5
      obtain ⟨ga, gb, V, hga, hgb, hV, hbo⟩ := Both.start HP6.out ⟨HOK.out, HSM.out⟩ la e2
      have HGA := Lib.hid hga
      have HGB := Lib.hid hgb
      have HVV := Lib.hid hV
      have HBO := Lib.hid hbo
      clear hga hgb hV hbo HP6
      go_upto_region 10 with (fail)
      rw [HVV.out, HGA.out]
      try rw [HGA.out] at HGB
      rw [HGB.out]
      clear HVV HGA HGB
      have q0 := HBO.out.la.cell (o := 0) rfl
      have q1 := HBO.out.la.cell (o := 1) rfl
      have q2 := HBO.out.la.lt
      have r0 := HBO.out.lb.cell (o := 0) rfl
      have r1 := HBO.out.lb.cell (o := 1) rfl
      have r2 := HBO.out.lb.lt
      go_wp2_with fail
      clear q0 q1 q2 r0 r1 r2
      go_loopg [14] 2 (fun gg s14 wr => ∃ (k : Nat) (av : Int), s14 = .int .i64 (k : Int) ∧ k ≤ 2 ∧ 2 - k ≤ gg ∧ Hid (Both w V wr t x ga gb T av e2))
      case atStart => exact ⟨0, la, rfl, by omega, by omega, HBO⟩
      case round =>
        obtain ⟨k, av, rfl, hk2, hkg, HB⟩ := hrel
        clear HBO
        by_cases hlt2 : k < 2
        · have hltz2 : (k : Int) < 2 := by omega
          have hwk : wrap64 ((k : Int) + 1) = (k : Int) + 1 := wr0 (by omega)
          obtain ⟨b1, hb1⟩ : ∃ b, T.ownB e2 e3 = b := ⟨_, rfl⟩
          obtain ⟨b2, hb2⟩ : ∃ b, T.seesB av e2 e3 = b := ⟨_, rfl⟩
          obtain ⟨b3, hb3⟩ : ∃ b, T.laterB av e2 e3 = b := ⟨_, rfl⟩
          have HB1 := Lib.hid hb1
          have HB2 := Lib.hid hb2
          have HB3 := Lib.hid hb3
          clear hb1 hb2 hb3
          go_upto_region 15 with (fail)
          have hdr := below_drw wr
          try simp only [List.append_eq, List.cons_append, List.nil_append]
          refine RX.wp_region_plan (fun w w' => Below w.heap.size w w') [.it (.agg #[.int .i64 av, .int .i64 e2]), .it (.pointer (some ⟨t, 0, none⟩)), .it (.int .i64 e3), .it (.bool b1), .it (.agg #[.int .i64 av, .int .i64 e2]), .it (.pointer (some ⟨x, 0, none⟩)), .it (.int .i64 e3), .it (.bool b1), .it (.bool false), .it (.bool false), .it (.agg #[.int .i64 av, .int .i64 e2]), .it (.pointer (some ⟨t, 0, none⟩)), .it (.int .i64 e3), .it (.bool b2), .it (.agg #[.int .i64 av, .int .i64 e2]), .it (.pointer (some ⟨x, 0, none⟩)), .it (.int .i64 e3), .it (.bool b2), .it (.bool false), .it (.bool false), .it (.bool false), .it (.agg #[.int .i64 av, .int .i64 e2]), .it (.pointer (some ⟨t, 0, none⟩)), .it (.int .i64 e3), .it (.bool b3), .it (.agg #[.int .i64 av, .int .i64 e2]), .it (.pointer (some ⟨x, 0, none⟩)), .it (.int .i64 e3), .it (.bool b3), .it (.bool false), .it (.bool false)] (by kernel_rfl) (by kernel_rfl) (fun _ => Below.refl _ _) (fun _ _ _ => below_tr) ?_
          refine RX.seqP_value (fun _ => Below.refl _ _) _ (by first | rfl | simp) (fun w' hw' hctx => ?_) ?_
          · have e0 := (HB.out.below (below_tr hdr hw')).la.cell (o := 0) rfl
            have e1' := (HB.out.below (below_tr hdr hw')).la.cell (o := 1) rfl
            have e4 := (HB.out.below (below_tr hdr hw')).la.lt
            go_simp
            try first | with_reducible rfl | simp
          simp only [Act.put, List.setIfInBounds_toArray, List.set_cons_zero, List.set_cons_succ]
          refine RX.seqP_value (fun _ => Below.refl _ _) _ (by first | rfl | simp) (fun w' hw' hctx => by (go_simp); (try first | with_reducible rfl | simp)) ?_
          simp only [Act.put, List.setIfInBounds_toArray, List.set_cons_zero, List.set_cons_succ]
          refine RX.seqP_value (fun _ => Below.refl _ _) _ (by first | rfl | simp) (fun w' hw' hctx => by (go_simp); (try first | with_reducible rfl | simp)) ?_
          simp only [Act.put, List.setIfInBounds_toArray, List.set_cons_zero, List.set_cons_succ]
          refine RX.seqP_call (15) #[.agg #[.int .i64 av, .int .i64 e2], .pointer (some ⟨t, 0, none⟩), .int .i64 e3] (.bool b1) (by first | rfl | simp) (fun w' hw' hctx => ?_) (fun w' hw' hctx => (own_is w' _ T av e2 e3 HI.out (HB.out.below (below_tr hdr hw')).tv b1 HB1.out : Calls Try.prog 15 #[.agg #[.int .i64 av, .int .i64 e2], .pointer (some ⟨t, 0, none⟩), .int .i64 e3] w' fun e w'' => e = .returned (.bool b1) ∧ Below w'.heap.size w' w'')) ?_
          · go_simp
          simp only [Act.put, List.setIfInBounds_toArray, List.set_cons_zero, List.set_cons_succ]
          refine RX.seqP_value (fun _ => Below.refl _ _) _ (by first | rfl | simp) (fun w' hw' hctx => ?_) ?_
          · have e0 := (HB.out.below (below_tr hdr hw')).lb.cell (o := 0) rfl
            have e1' := (HB.out.below (below_tr hdr hw')).lb.cell (o := 1) rfl
            have e4 := (HB.out.below (below_tr hdr hw')).lb.lt
            go_simp
            try first | with_reducible rfl | simp
          simp only [Act.put, List.setIfInBounds_toArray, List.set_cons_zero, List.set_cons_succ]
          refine RX.seqP_value (fun _ => Below.refl _ _) _ (by first | rfl | simp) (fun w' hw' hctx => by (go_simp); (try first | with_reducible rfl | simp)) ?_
          simp only [Act.put, List.setIfInBounds_toArray, List.set_cons_zero, List.set_cons_succ]
          refine RX.seqP_value (fun _ => Below.refl _ _) _ (by first | rfl | simp) (fun w' hw' hctx => by (go_simp); (try first | with_reducible rfl | simp)) ?_
          simp only [Act.put, List.setIfInBounds_toArray, List.set_cons_zero, List.set_cons_succ]
          refine RX.seqP_call (16) #[.agg #[.int .i64 av, .int .i64 e2], .pointer (some ⟨x, 0, none⟩), .int .i64 e3] (.bool b1) (by first | rfl | simp) (fun w' hw' hctx => ?_) (fun w' hw' hctx => (ownR_is w' x T av e2 e3 HI.out (HB.out.below (below_tr hdr hw')).rv b1 HB1.out : Calls Try.prog 16 #[.agg #[.int .i64 av, .int .i64 e2], .pointer (some ⟨x, 0, none⟩), .int .i64 e3] w' fun e w'' => e = .returned (.bool b1) ∧ Below w'.heap.size w' w'')) ?_
          · go_simp
          simp only [Act.put, List.setIfInBounds_toArray, List.set_cons_zero, List.set_cons_succ]
          refine RX.seqP_value (fun _ => Below.refl _ _) _ (by first | rfl | simp) (fun w' hw' hctx => by (go_simp); (try first | with_reducible rfl | simp)) ?_
          simp only [Act.put, List.setIfInBounds_toArray, List.set_cons_zero, List.set_cons_succ]
          refine RX.seqP_value (fun _ => Below.refl _ _) _ (by first | rfl | simp) (fun w' hw' hctx => by (go_simp); (try first | with_reducible rfl | simp)) ?_
          simp only [Act.put, List.setIfInBounds_toArray, List.set_cons_zero, List.set_cons_succ]
          refine RX.seqP_value (fun _ => Below.refl _ _) _ (by first | rfl | simp) (fun w' hw' hctx => ?_) ?_
          · have e0 := (HB.out.below (below_tr hdr hw')).la.cell (o := 0) rfl
            have e1' := (HB.out.below (below_tr hdr hw')).la.cell (o := 1) rfl
            have e4 := (HB.out.below (below_tr hdr hw')).la.lt
            go_simp
            try first | with_reducible rfl | simp
          simp only [Act.put, List.setIfInBounds_toArray, List.set_cons_zero, List.set_cons_succ]
          refine RX.seqP_value (fun _ => Below.refl _ _) _ (by first | rfl | simp) (fun w' hw' hctx => by (go_simp); (try first | with_reducible rfl | simp)) ?_
          simp only [Act.put, List.setIfInBounds_toArray, List.set_cons_zero, List.set_cons_succ]
          refine RX.seqP_value (fun _ => Below.refl _ _) _ (by first | rfl | simp) (fun w' hw' hctx => by (go_simp); (try first | with_reducible rfl | simp)) ?_
          simp only [Act.put, List.setIfInBounds_toArray, List.set_cons_zero, List.set_cons_succ]
          refine RX.seqP_call (17) #[.agg #[.int .i64 av, .int .i64 e2], .pointer (some ⟨t, 0, none⟩), .int .i64 e3] (.bool b2) (by first | rfl | simp) (fun w' hw' hctx => ?_) (fun w' hw' hctx => (sees_is w' _ T av e2 e3 HI.out (HB.out.below (below_tr hdr hw')).tv b2 HB2.out : Calls Try.prog 17 #[.agg #[.int .i64 av, .int .i64 e2], .pointer (some ⟨t, 0, none⟩), .int .i64 e3] w' fun e w'' => e = .returned (.bool b2) ∧ Below w'.heap.size w' w'')) ?_
          · go_simp
          simp only [Act.put, List.setIfInBounds_toArray, List.set_cons_zero, List.set_cons_succ]
          refine RX.seqP_value (fun _ => Below.refl _ _) _ (by first | rfl | simp) (fun w' hw' hctx => ?_) ?_
          · have e0 := (HB.out.below (below_tr hdr hw')).lb.cell (o := 0) rfl
            have e1' := (HB.out.below (below_tr hdr hw')).lb.cell (o := 1) rfl
            have e4 := (HB.out.below (below_tr hdr hw')).lb.lt
            go_simp
            try first | with_reducible rfl | simp
          simp only [Act.put, List.setIfInBounds_toArray, List.set_cons_zero, List.set_cons_succ]
          refine RX.seqP_value (fun _ => Below.refl _ _) _ (by first | rfl | simp) (fun w' hw' hctx => by (go_simp); (try first | with_reducible rfl | simp)) ?_
          simp only [Act.put, List.setIfInBounds_toArray, List.set_cons_zero, List.set_cons_succ]
          refine RX.seqP_value (fun _ => Below.refl _ _) _ (by first | rfl | simp) (fun w' hw' hctx => by (go_simp); (try first | with_reducible rfl | simp)) ?_
          simp only [Act.put, List.setIfInBounds_toArray, List.set_cons_zero, List.set_cons_succ]
          refine RX.seqP_call (18) #[.agg #[.int .i64 av, .int .i64 e2], .pointer (some ⟨x, 0, none⟩), .int .i64 e3] (.bool b2) (by first | rfl | simp) (fun w' hw' hctx => ?_) (fun w' hw' hctx => (seesR_is w' x T av e2 e3 HI.out (HB.out.below (below_tr hdr hw')).rv b2 HB2.out : Calls Try.prog 18 #[.agg #[.int .i64 av, .int .i64 e2], .pointer (some ⟨x, 0, none⟩), .int .i64 e3] w' fun e w'' => e = .returned (.bool b2) ∧ Below w'.heap.size w' w'')) ?_
          · go_simp
          simp only [Act.put, List.setIfInBounds_toArray, List.set_cons_zero, List.set_cons_succ]
          refine RX.seqP_value (fun _ => Below.refl _ _) _ (by first | rfl | simp) (fun w' hw' hctx => by (go_simp); (try first | with_reducible rfl | simp)) ?_
          simp only [Act.put, List.setIfInBounds_toArray, List.set_cons_zero, List.set_cons_succ]
          refine RX.seqP_value (fun _ => Below.refl _ _) _ (by first | rfl | simp) (fun w' hw' hctx => by (go_simp); (try first | with_reducible rfl | simp)) ?_
          simp only [Act.put, List.setIfInBounds_toArray, List.set_cons_zero, List.set_cons_succ]
          refine RX.seqP_value (fun _ => Below.refl _ _) _ (by first | rfl | simp) (fun w' hw' hctx => by (go_simp); (try first | with_reducible rfl | simp)) ?_
          simp only [Act.put, List.setIfInBounds_toArray, List.set_cons_zero, List.set_cons_succ]
          refine RX.seqP_value (fun _ => Below.refl _ _) _ (by first | rfl | simp) (fun w' hw' hctx => ?_) ?_
          · have e0 := (HB.out.below (below_tr hdr hw')).la.cell (o := 0) rfl
            have e1' := (HB.out.below (below_tr hdr hw')).la.cell (o := 1) rfl
            have e4 := (HB.out.below (below_tr hdr hw')).la.lt
            go_simp
            try first | with_reducible rfl | simp
          simp only [Act.put, List.setIfInBounds_toArray, List.set_cons_zero, List.set_cons_succ]
          refine RX.seqP_value (fun _ => Below.refl _ _) _ (by first | rfl | simp) (fun w' hw' hctx => by (go_simp); (try first | with_reducible rfl | simp)) ?_
          simp only [Act.put, List.setIfInBounds_toArray, List.set_cons_zero, List.set_cons_succ]
          refine RX.seqP_value (fun _ => Below.refl _ _) _ (by first | rfl | simp) (fun w' hw' hctx => by (go_simp); (try first | with_reducible rfl | simp)) ?_
          simp only [Act.put, List.setIfInBounds_toArray, List.set_cons_zero, List.set_cons_succ]
          refine RX.seqP_call (19) #[.agg #[.int .i64 av, .int .i64 e2], .pointer (some ⟨t, 0, none⟩), .int .i64 e3] (.bool b3) (by first | rfl | simp) (fun w' hw' hctx => ?_) (fun w' hw' hctx => (later_is w' _ T av e2 e3 HI.out (HB.out.below (below_tr hdr hw')).tv b3 HB3.out : Calls Try.prog 19 #[.agg #[.int .i64 av, .int .i64 e2], .pointer (some ⟨t, 0, none⟩), .int .i64 e3] w' fun e w'' => e = .returned (.bool b3) ∧ Below w'.heap.size w' w'')) ?_
          · go_simp
          simp only [Act.put, List.setIfInBounds_toArray, List.set_cons_zero, List.set_cons_succ]
          refine RX.seqP_value (fun _ => Below.refl _ _) _ (by first | rfl | simp) (fun w' hw' hctx => ?_) ?_
          · have e0 := (HB.out.below (below_tr hdr hw')).lb.cell (o := 0) rfl
            have e1' := (HB.out.below (below_tr hdr hw')).lb.cell (o := 1) rfl
            have e4 := (HB.out.below (below_tr hdr hw')).lb.lt
            go_simp
            try first | with_reducible rfl | simp
          simp only [Act.put, List.setIfInBounds_toArray, List.set_cons_zero, List.set_cons_succ]
          refine RX.seqP_value (fun _ => Below.refl _ _) _ (by first | rfl | simp) (fun w' hw' hctx => by (go_simp); (try first | with_reducible rfl | simp)) ?_
          simp only [Act.put, List.setIfInBounds_toArray, List.set_cons_zero, List.set_cons_succ]
          refine RX.seqP_value (fun _ => Below.refl _ _) _ (by first | rfl | simp) (fun w' hw' hctx => by (go_simp); (try first | with_reducible rfl | simp)) ?_
          simp only [Act.put, List.setIfInBounds_toArray, List.set_cons_zero, List.set_cons_succ]
          refine RX.seqP_call (20) #[.agg #[.int .i64 av, .int .i64 e2], .pointer (some ⟨x, 0, none⟩), .int .i64 e3] (.bool b3) (by first | rfl | simp) (fun w' hw' hctx => ?_) (fun w' hw' hctx => (laterR_is w' x T av e2 e3 HI.out (HB.out.below (below_tr hdr hw')).rv b3 HB3.out : Calls Try.prog 20 #[.agg #[.int .i64 av, .int .i64 e2], .pointer (some ⟨x, 0, none⟩), .int .i64 e3] w' fun e w'' => e = .returned (.bool b3) ∧ Below w'.heap.size w' w'')) ?_
          · go_simp
          simp only [Act.put, List.setIfInBounds_toArray, List.set_cons_zero, List.set_cons_succ]
          refine RX.seqP_value (fun _ => Below.refl _ _) _ (by first | rfl | simp) (fun w' hw' hctx => by (go_simp); (try first | with_reducible rfl | simp)) ?_
          simp only [Act.put, List.setIfInBounds_toArray, List.set_cons_zero, List.set_cons_succ]
          refine RX.seqP_value (fun _ => Below.refl _ _) _ (by first | rfl | simp) (fun w' hw' hctx => by (go_simp); (try first | with_reducible rfl | simp)) ?_
          simp only [Act.put, List.setIfInBounds_toArray, List.set_cons_zero, List.set_cons_succ]
          refine RX.seqP_nil (fun w7 hR hctx _ => ?_)
          have hb7 := below_tr hdr hR
          clear hctx hR
          have HB7 := Lib.hid (HB.out.below hb7)
          clear hb7 hdr HB
          have HB8 := Lib.hid (HB7.out.put e1 e2)
          unfold put2 at HB8
          have q0 := HB7.out.la.cell (o := 0) rfl
          have q1 := HB7.out.la.cell (o := 1) rfl
          have q2 := HB7.out.la.lt
          have q3 := HB7.out.la.fz 0
          have q4 := HB7.out.la.fz 1
          have r0 := HB7.out.lb.cell (o := 0) rfl
          have r1 := HB7.out.lb.cell (o := 1) rfl
          have r2 := HB7.out.lb.lt
          have r3 := HB7.out.lb.fz 0
          have r4 := HB7.out.lb.fz 1
          have hne := HB7.out.far.2.2
          have hne2 := Ne.symm hne
          go_wp2_with fail
          clear hwk
          go_roundg (2 - (k + 1))
          case measure => omega
          case rel => exact ⟨k + 1, e1, by exact congrArg (Value.int .i64) (by omega), by omega, Nat.le_refl _, HB8⟩
        · obtain rfl : k = 2 := by omega
          have hltz2 : ¬ ((2 : Nat) : Int) < 2 := by omega
          clear hk2 hkg hlt2
          have hcon := awake_is wr
          go_wp2_with fail
          refine (show Calls Try.prog _ _ _ _ from hcon).mono ?_
          rintro e w9 ⟨rfl, hb⟩
          have HE := Lib.hid (below_tr HB.out.bel hb)
          clear hcon hb
          go_wp2_with fail
          go_ret
          exact ⟨rfl, HE.out⟩

set_option maxRecDepth 100000 in
set_option maxHeartbeats 8000000 in
theorem tells_law (a0 : Option Addr) (c0 n0 : Nat) (l0 : List Stp) (hn0 : l0.length = n0) (e1 e2 e3 : Int) (hin1 : I64 e1) (hin2 : I64 e2) (hin3 : I64 e3) (w : World) (hs0 : SlSt w a0 c0 l0) :
    Calls Try.prog 3 #[.slice a0 n0 c0, .int .i64 e1, .int .i64 e2, .int .i64 e3] w fun e w' => e = .returned (.bool true) ∧ Below w.heap.size w w' := by
  by_cases hz : n0 ≤ 200
  · exact tells_main a0 c0 n0 l0 hn0 e1 e2 e3 hin1 hin2 hin3 w hs0 hz
  · exact tells_large a0 c0 n0 l0 hn0 e1 e2 e3 hin1 hin2 hin3 w hs0 (by omega)

end Go.Proofs.Ytpdfknknnklioaa
