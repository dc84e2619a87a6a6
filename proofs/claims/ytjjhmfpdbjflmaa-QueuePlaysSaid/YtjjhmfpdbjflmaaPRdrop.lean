/-
  Drop of the document's lock (stage 14).
-/
import Derived.Test.YtjjhmfpdbjflmaaPRst
namespace Go.Proofs.Ytjjhmfpdbjflmaa
open Go.RowKit
set_option linter.unusedVariables false

/-- The document's lock in blocks that are its own, or newer than w. -/
def RkI (w : World) (x : Nat) (s t : Value) (W : World) (s' t' : Value) (A : Lk) : Prop := RkM W x s' t' A ∧ (∀ j, RkF x s' t' j → RkF x s t j ∨ w.heap.size ≤ j) ∧ Touch (RkF x s t) w W
theorem RkI.below {w W W' : World} {x : Nat} {s t s' t' : Value} {A : Lk} (h : RkI w x s t W s' t' A) (hb : Below W.heap.size W W') : RkI w x s t W' s' t' A := ⟨h.1.below hb, h.2.1, h.2.2.trans (Touch.of_below hb) (fun _ _ h => h)⟩
/-- The row of those who wait is put anew. -/
theorem RkI.putW {w W : World} {x : Nat} {s t s' t' v : Value} {A : Lk} (h : RkI w x s t W s' t' A) {wt : PL} (hv : RowO false W v wt) (ho : ∀ j, v.ownBlock = some j → w.heap.size ≤ j ∧ j ≠ x ∧ s'.ownBlock ≠ some j) : RkI w x s t (W.setCell ⟨x, 2, none⟩ v) s' v ⟨A.c, A.hd, wt⟩ := by
  have hts := Touch.setCell W (F := fun j => j = x) rfl 2 v
  have hst := hts.stay (G := fun j => j ≠ x) (fun j hj e => hj e)
  refine ⟨⟨h.1.lit.set 2 _, h.1.hd.stay hst (fun j hj => (h.1.ownH j hj).1), hv.stay hst (fun j hj => (ho j hj).2.1), fun j hj => ⟨(h.1.ownH j hj).1, fun e => (ho j e).2.2 hj⟩, fun j hj => (ho j hj).2.1⟩, fun j hj => ?_, h.2.2.trans hts (fun j _ hj => .inl hj)⟩
  rcases hj with hj | hj | hj
  · exact .inl (.inl hj)
  · exact h.2.1 j (.inr (.inl hj))
  · exact .inr (ho j hj).1
theorem RkI.putH {w W : World} {x : Nat} {s t s' t' v : Value} {A : Lk} (h : RkI w x s t W s' t' A) {hd : PL} (hv : RowO true W v hd) (ho : ∀ j, v.ownBlock = some j → w.heap.size ≤ j ∧ j ≠ x ∧ t'.ownBlock ≠ some j) : RkI w x s t (W.setCell ⟨x, 1, none⟩ v) v t' ⟨A.c, hd, A.wt⟩ := by
  have hts := Touch.setCell W (F := fun j => j = x) rfl 1 v
  have hst := hts.stay (G := fun j => j ≠ x) (fun j hj e => hj e)
  refine ⟨⟨h.1.lit.set 1 _, hv.stay hst (fun j hj => (ho j hj).2.1), h.1.wt.stay hst (fun j hj => h.1.ownW j hj), fun j hj => ⟨(ho j hj).2.1, (ho j hj).2.2⟩, h.1.ownW⟩, fun j hj => ?_, h.2.2.trans hts (fun j _ hj => .inl hj)⟩
  rcases hj with hj | hj | hj
  · exact .inl (.inl hj)
  · exact .inr (ho j hj).1
  · exact h.2.1 j (.inr (.inr hj))

set_option maxRecDepth 100000 in
set_option maxHeartbeats 8000000 in
theorem rdrop_low (w : World) (x : Nat) (y : Int) (hy : y < 1) : Calls Try.prog 14 #[.pointer (some ⟨x, 0, none⟩), .int .i64 y] w fun e w' => e = .returned (.tuple #[.slice none 0 0, .int .i64 1]) ∧ Below w.heap.size w w' := by
  go_enter Try.func14, Try.ntmps14
  go_wp2_with fail
  exact bodyPost_ret (v := .tuple #[.slice none 0 0, .int .i64 1]) (by first | (simp [results, Try.results14, go_sem]; done) | (simp [results, Try.results14, go_sem]; rfl)) rfl ⟨rfl, Below.refl _ _⟩

set_option maxRecDepth 100000 in
set_option maxHeartbeats 8000000 in
theorem rdrop_in (w : World) (x : Nat) (s t : Value) (A : Lk) (y : Int) (hok : Ok0 A) (hlen : A.hd.length + A.wt.length ≤ 50000) (H : RkM w x s t A) (hy : ¬ y < 1) (HD WT : PL) (G : List Int) (hto : A.dropS y = (HD, WT, G)) :
    Calls Try.prog 14 #[.pointer (some ⟨x, 0, none⟩), .int .i64 y] w fun e w' => ∃ v, e = .returned (.tuple #[v, .int .i64 0]) ∧ RowI w' v G ∧ (∀ k, v.ownBlock = some k → w.heap.size ≤ k) ∧ ∃ s' t', RkI w x s t w' s' t' ⟨A.c, HD, WT⟩ := by
  have mixed : Try.prog.follows Departure.mixedOrders = true := by kernel_rfl
  have HOK := Lib.hid hok
  have HLEN := Lib.hid hlen
  have HTO := Lib.hid hto
  have HX : Hid (x < w.heap.size) := Lib.hid H.lit.lt
  have HIN : Hid (RkI w x s t w s t A) := Lib.hid ⟨H, fun j hj => .inl hj, Touch.refl _ _⟩
  obtain ⟨d0, d1, d2, dl⟩ := H.cells
  clear H hok hlen hto
  go_enter Try.func14, Try.ntmps14
  have hcon := rwo_is true w s A.hd y (by have := HLEN.out; omega) HIN.out.1.hd
  go_wp2_with fail
  refine (show Calls Try.prog _ _ _ _ from hcon).mono ?_
  rintro e w1 ⟨v, rfl, hv, ho, hb⟩
  obtain ⟨pa, pc, hpf, -, -⟩ := hv.form
  obtain ⟨pn, hpn⟩ : ∃ k, (without A.hd y).length = k := ⟨_, rfl⟩
  rw [hpn] at hpf
  subst hpf
  clear hpn
  have hI1 := HIN.out.below hb
  obtain ⟨f0, f1, f2, fl⟩ := hI1.1.cells
  have hz1 := hI1.1.lit.fz 1
  have HI2 := Lib.hid (hI1.putH hv (fun j hj => ⟨ho j hj, by have := ho j hj; have := HX.out; omega, fun e => by have := ho j hj; have := HIN.out.1.wt.lt j e; omega⟩))
  have HV1 := Lib.hid ho
  clear hI1
  clear hcon hv ho hb
  obtain ⟨W2, hW2⟩ : ∃ W2, w1.setCell ⟨x, 1, none⟩ (.slice pa pn pc) = W2 := ⟨_, rfl⟩
  have HW2 := Lib.hid hW2
  rw [hW2] at HI2
  clear hW2
  go_upto_region 4 with (fail)
  rw [HW2.out]
  clear HW2 f0 f1 f2 fl hz1 d0 d1 d2 dl
  obtain ⟨f0, f1, f2, fl⟩ := HI2.out.1.cells
  have hcon := rwo_is false W2 t A.wt y (by have := HLEN.out; omega) HI2.out.1.wt
  go_wp2_with fail
  refine (show Calls Try.prog _ _ _ _ from hcon).mono ?_
  rintro e w3 ⟨v2, rfl, hv, ho, hb⟩
  obtain ⟨qa, qc, hpf, -, -⟩ := hv.form
  obtain ⟨qn, hpn⟩ : ∃ k, (without A.wt y).length = k := ⟨_, rfl⟩
  rw [hpn] at hpf
  subst hpf
  clear hpn
  have hI3 := HI2.out.below hb
  clear f0 f1 f2 fl
  obtain ⟨f0, f1, f2, fl⟩ := hI3.1.cells
  have hz1 := hI3.1.lit.fz 2
  have HI4 := Lib.hid (hI3.putW hv (fun j hj => ⟨Nat.le_trans HI2.out.2.2.size (ho j hj), by have := ho j hj; have := HI2.out.1.lit.lt; omega, fun e => by have := ho j hj; have := HI2.out.1.hd.lt j e; omega⟩))
  clear hI3
  clear hcon hv ho hb
  obtain ⟨W4, hW4⟩ : ∃ W4, w3.setCell ⟨x, 2, none⟩ (.slice qa qn qc) = W4 := ⟨_, rfl⟩
  have HW4 := Lib.hid hW4
  rw [hW4] at HI4
  clear hW4
  go_upto_region 5 with (fail)
  rw [HW4.out]
  clear HW4 f0 f1 f2 fl hz1
  go_wp2_with fail
  have HST : Hid (StI A.c (HD, WT, G) (without A.hd y) (without A.wt y) [] ∧ Ok0 ⟨A.c, without A.hd y, without A.wt y⟩) := Lib.hid ⟨by
    have := StI.start A.c (without A.hd y) (without A.wt y)
    rw [show settleL A.c (without A.wt y).length (without A.hd y) (without A.wt y) = (HD, WT, G) from HTO.out] at this
    exact this, HOK.out.less y⟩
  have HLE : Hid ((without A.hd y).length + (without A.wt y).length ≤ 50000 ∧ (without A.wt y).length ≤ A.wt.length) := Lib.hid (by have h1 := without_len A.hd y; have h2 := without_len A.wt y; have := HLEN.out; omega)
  obtain ⟨K, hK⟩ : ∃ K, A.wt.length + 1 = K := ⟨_, rfl⟩
  have HK := Lib.hid hK
  go_loopg [6, 7, 8] (K * (A.wt.length + 1) + K) (fun gg s6 s7 s8 wr => ∃ (i : Nat) (vo s' t' : Value) (hd wt : PL) (acc : List Int), vo = s6 ∧ s7 = .int .i64 i ∧ i ≤ wt.length ∧ K * wt.length + (wt.length - i) ≤ gg ∧ Hid (RowI wr vo acc ∧ ∀ k, vo.ownBlock = some k → w.heap.size ≤ k ∧ ¬ RkF x s' t' k) ∧ Hid (RkI w x s t wr s' t' ⟨A.c, hd, wt⟩) ∧ Hid (StI A.c (HD, WT, G) hd wt acc ∧ Ok0 ⟨A.c, hd, wt⟩ ∧ BlkI A.c hd wt i) ∧ Hid (hd.length + wt.length ≤ 50000 ∧ wt.length ≤ A.wt.length ∧ acc.length + wt.length ≤ A.wt.length))
  case atStart => exact ⟨0, _, _, _, _, _, [], rfl, rfl, Nat.zero_le _, by have h1 := HLE.out.2; have : K * (without A.wt y).length ≤ K * A.wt.length := Nat.mul_le_mul_left _ h1; rw [Nat.mul_add]; omega, Lib.hid ⟨RowF.nil _ _ _ _, fun k hk => by cases hk⟩, HI4, Lib.hid ⟨HST.out.1, HST.out.2, BlkI.zero _ _ _⟩, Lib.hid ⟨HLE.out.1, HLE.out.2, by simp; exact HLE.out.2⟩⟩
  case round =>
    obtain ⟨i, vo, s', t', hd, wt, acc, rfl, rfl, hi, hgg, HO, HR, HS, HL⟩ := hrel
    clear HI4 HST HLE
    obtain ⟨ta, tc, htf, -, -⟩ := HR.out.1.wt.form
    obtain ⟨n, hn⟩ : ∃ n, wt.length = n := ⟨_, rfl⟩
    change t' = .slice ta wt.length tc at htf
    rw [hn] at htf hi hgg
    subst htf
    have HN := Lib.hid hn
    obtain ⟨f0, f1, f2, fl⟩ := HR.out.1.cells
    clear hn
    have hn5 : n ≤ 50000 := by have := HL.out.1; have := HN.out; omega
    by_cases hlt : i < n
    · have hltz : (i : Int) < (n : Int) := by omega
      obtain ⟨p, hp⟩ := get_pl (l := wt) (i := i) (by rw [HN.out]; exact hlt)
      obtain ⟨b, e1, hbl, c0, c1, c2, -⟩ := HR.out.1.wt.look hp
      subst e1
      obtain ⟨z, m⟩ := p
      have c3 : wr.cell? ⟨b, i * 3, none⟩ = some (.int .i64 z) := c0
      have c4 : wr.cell? ⟨b, i * 3 + 1, none⟩ = some (.int .u16 0) := c1
      have c5 : wr.cell? ⟨b, i * 3 + 2, none⟩ = some (.int .u8 m) := c2
      have HP := Lib.hid hp
      have HMC := HS.out.2.1.wts _ (List.mem_of_getElem? hp)
      have HM : Hid (U8 m ∧ m < 16) := Lib.hid ⟨may_u8 HMC.2.2, by have := may_8 HMC.2.2; omega⟩
      have HLT := Lib.hid (And.intro hlt (And.intro hi hgg))
      have hlit := Lit.new wr 71 [.int .i64 z, .int .u16 0, .int .u8 m]
      have hal := Below.allocs wr (.cells #[.int .i64 z, .int .u16 0, .int .u8 m] 71)
      obtain ⟨W1, hW1⟩ : ∃ W1, wr.alloc (.cells #[.int .i64 z, .int .u16 0, .int .u8 m] 71) = W1 := ⟨_, rfl⟩
      obtain ⟨g, hg⟩ : ∃ g, wr.heap.size = g := ⟨_, rfl⟩
      have hgF : ∀ j, RkF x s' (.slice (some ⟨b, 0, none⟩) n tc) j → j ≠ g := fun j hj => by have := HR.out.1.lt j hj; omega
      have HGF := Lib.hid hgF
      have hGO : ∀ k, vo.ownBlock = some k → k ≠ g := fun k hk => by have := RowF.lt HO.out.1 k hk; omega
      have HGO := Lib.hid hGO
      have HGW : Hid (w.heap.size ≤ g) := Lib.hid (by rw [← hg]; exact HR.out.2.2.size)
      rw [hW1, hg] at hlit
      rw [hW1] at hal
      have HW1 := Lib.hid hW1
      have HGE := Lib.hid hg
      have HG1 := Lib.hid hlit
      have HR1 := Lib.hid (HR.out.below hal)
      have HO1 : Hid (RowI W1 vo acc) := Lib.hid (RowF.below HO.out.1 hal)
      clear hp hi hgg hlit hal hW1 hg hgF hGO HMC c0 c1 c2
      go_upto_region 9 with (fail)
      rw [HW1.out]
      try rw [HGE.out]
      clear HW1 HGE c3 c4 c5 f0 f1 f2 fl
      have e0 := HG1.out.cell (o := 0) rfl
      have e1 := HG1.out.cell (o := 1) rfl
      have e2 := HG1.out.cell (o := 2) rfl
      have el := HG1.out.lt
      obtain ⟨fl0, hfl⟩ : ∃ k, (forL A.c hd (wt.take i) z m).length = k := ⟨_, rfl⟩
      have HFL := Lib.hid hfl
      have hcon := rfw_is W1 x _ _ ⟨A.c, hd, wt⟩ z m i (by show i ≤ wt.length; rw [HN.out]; omega) HS.out.2.1 HM.out.1 (by show hd.length + wt.length ≤ 100000; have := HL.out.1; omega) HR1.out.1
      go_wp2_with fail
      refine (show Calls Try.prog _ _ _ _ from hcon).mono ?_
      rintro e w2 ⟨fv, rfl, hr2, -, hb2⟩
      obtain ⟨fa, fc, rfl, -, -⟩ := hr2.form
      rw [show (forL (⟨A.c, hd, wt⟩ : Lk).c (⟨A.c, hd, wt⟩ : Lk).hd ((⟨A.c, hd, wt⟩ : Lk).wt.take i) z m).length = fl0 from HFL.out]
      have HG2 := Lib.hid (HG1.out.below hb2)
      have HR2 := Lib.hid (HR1.out.below hb2)
      have HO2 : Hid (RowI w2 vo acc) := Lib.hid (RowF.below HO1.out hb2)
      clear hcon hr2 hb2 e0 e1 e2 el hfl HG1 HR1 HO1
      by_cases hf : fl0 = 0
      · subst hf
        have hfr : forL A.c hd (wt.take i) z m = [] := List.eq_nil_of_length_eq_zero HFL.out
        have hstep := StI.step HS.out.1 HS.out.2.1.wnd HS.out.2.2 HP.out hfr
        have hok2 := Ok0.granted HS.out.2.1 HP.out hfr
        have HSN := Lib.hid (And.intro hstep hok2)
        have e0 := HG2.out.cell (o := 0) rfl
        have e1 := HG2.out.cell (o := 1) rfl
        have e2 := HG2.out.cell (o := 2) rfl
        have el := HG2.out.lt
        have hcon := rgive_is w2 x _ _ ⟨A.c, hd, wt⟩ z m HS.out.2.1 HM.out.1 HM.out.2 (by show hd.length ≤ 100000; have := HL.out.1; omega) HR2.out.1
        clear hfr hstep hok2
        go_wp2_with fail
        refine (show Calls Try.prog _ _ _ _ from hcon).mono ?_
        rintro e w5 ⟨rfl, s5, h5, o5, t5⟩
        have hst5 := t5.stay (G := fun j => j = g ∨ vo.ownBlock = some j) (fun j hj hf => by
          have hF : RkF x s' (.slice (some ⟨b, 0, none⟩) n tc) j := hf.elim (fun e => .inl e) (fun e => .inr (.inl e))
          rcases hj with hj | hj
          · exact HGF.out j hF hj
          · exact (HO.out.2 j hj).2 hF)
        have HG5 := Lib.hid (HG2.out.stay hst5 (.inl rfl))
        have HO5 : Hid (RowI w5 vo acc) := Lib.hid (RowF.stay HO2.out hst5 (fun j hj => .inr hj))
        have HR5 : Hid (RkI w x s t w5 s5 (.slice (some ⟨b, 0, none⟩) n tc) ⟨A.c, giveL hd z m, wt⟩) := Lib.hid ⟨h5, fun j hj => by
          rcases hj with hj | hj | hj
          · exact .inl (.inl hj)
          · rcases o5 j hj with e | e
            · exact HR2.out.2.1 j (.inr (.inl e))
            · exact .inr (Nat.le_trans HR2.out.2.2.size e)
          · exact HR2.out.2.1 j (.inr (.inr hj)), HR2.out.2.2.trans t5 (fun j hj hf => by
            have hF : RkF x s' (.slice (some ⟨b, 0, none⟩) n tc) j := hf.elim (fun e => .inl e) (fun e => .inr (.inl e))
            rcases HR2.out.2.1 j hF with e | e
            · exact e
            · omega)⟩
        have HS5 : Hid (∀ j, s5.ownBlock = some j → s'.ownBlock = some j ∨ w2.heap.size ≤ j) := Lib.hid o5
        have HGL2 : Hid (g < w2.heap.size ∧ ∀ j, vo.ownBlock = some j → j < w2.heap.size) := Lib.hid ⟨HG2.out.lt, fun j hj => RowF.lt HO2.out j hj⟩
        clear hcon h5 o5 t5 hst5 HG2 HO2 HR2 HR e0 e1 e2 el
        go_upto_region 12 with (fail)
        have hdr := below_drw w5
        try simp only [List.append_eq, List.cons_append, List.nil_append]
        refine RX.wp_region_planG 8 (fun w w' => Below w.heap.size w w') [.it (.pointer (some ⟨x, 0, none⟩)), .it (.pointer (some ⟨x, 0, none⟩)), .it (.pointer (some ⟨x, 0, none⟩)), .it (.pointer (some ⟨x, 2, none⟩)), .it (.slice (some ⟨b, 0, none⟩) n tc), .it (.pointer (some ⟨g, 0, none⟩)), .it (.int .i64 z), .of (fun W v => RowO false W v (without wt z) ∧ ∀ j, v.ownBlock = some j → w5.heap.size ≤ j)] mixed (by kernel_rfl) (fun _ => Below.refl _ _) (fun _ _ _ => below_tr) ?_
        simp only [List.take_succ_cons, List.take_zero, List.drop_succ_cons, List.drop_zero]
        refine RX.seqP_value (fun _ => Below.refl _ _) _ (by first | rfl | simp) (fun w' hw' hctx => by (go_simp); (try first | with_reducible rfl | simp)) ?_
        simp only [Act.put, List.setIfInBounds_toArray, List.set_cons_zero, List.set_cons_succ]
        refine RX.seqP_value (fun _ => Below.refl _ _) _ (by first | rfl | simp) (fun w' hw' hctx => by (go_simp); (try first | with_reducible rfl | simp)) ?_
        simp only [Act.put, List.setIfInBounds_toArray, List.set_cons_zero, List.set_cons_succ]
        refine RX.seqP_value (fun _ => Below.refl _ _) _ (by first | rfl | simp) (fun w' hw' hctx => by (go_simp); (try first | with_reducible rfl | simp)) ?_
        simp only [Act.put, List.setIfInBounds_toArray, List.set_cons_zero, List.set_cons_succ]
        refine RX.seqP_value (fun _ => Below.refl _ _) _ (by first | rfl | simp) (fun w' hw' hctx => by (go_simp); (try first | with_reducible rfl | simp)) ?_
        simp only [Act.put, List.setIfInBounds_toArray, List.set_cons_zero, List.set_cons_succ]
        refine RX.seqP_value (fun _ => Below.refl _ _) _ (by first | rfl | simp) (fun w' hw' hctx => ?_) ?_
        · have q := HR5.out.1.below (below_tr hdr hw')
          obtain ⟨d0, d1, d2, dl⟩ := q.cells
          go_simp
          try first | with_reducible rfl | simp
        simp only [Act.put, List.setIfInBounds_toArray, List.set_cons_zero, List.set_cons_succ]
        refine RX.seqP_value (fun _ => Below.refl _ _) _ (by first | rfl | simp) (fun w' hw' hctx => by (go_simp); (try first | with_reducible rfl | simp)) ?_
        simp only [Act.put, List.setIfInBounds_toArray, List.set_cons_zero, List.set_cons_succ]
        refine RX.seqP_value (fun _ => Below.refl _ _) _ (by first | rfl | simp) (fun w' hw' hctx => ?_) ?_
        · have q := HG5.out.below (below_tr hdr hw')
          have p0 := q.cell (o := 0) rfl
          have pl := q.lt
          go_simp
          try first | with_reducible rfl | simp
        simp only [Act.put, List.setIfInBounds_toArray, List.set_cons_zero, List.set_cons_succ]
        refine RX.seqP_callOf (35) #[.slice (some ⟨b, 0, none⟩) n tc, .int .i64 z] (fun W v => RowO false W v (without wt z) ∧ ∀ j, v.ownBlock = some j → w5.heap.size ≤ j) (fun w w' v hb h => ⟨RowO.below h.1 hb, h.2⟩) (by first | rfl | simp) (fun w' hw' hctx => ?_) (fun w' hw' hctx => (rwo_is false w' _ wt z (by have := HL.out.1; omega) (HR5.out.1.below (below_tr hdr hw')).wt).mono fun e w2 ⟨v, he, h1, h2, h3⟩ => ⟨v, he, h3, h1, fun j hj => Nat.le_trans (below_tr hdr hw').size (h2 j hj)⟩) (fun u7 => ?_)
        · go_simp
        simp only [Act.put, List.setIfInBounds_toArray, List.set_cons_zero, List.set_cons_succ]
        refine RX.seqP_nil (fun w6 hR hctx _ => ?_)
        have hb6 := below_tr hdr hR
        obtain ⟨hv6, ho6⟩ := hctx.1
        clear hctx hR
        obtain ⟨pa, pc, hpf, -, -⟩ := hv6.form
        obtain ⟨pn, hpn⟩ : ∃ k, (without wt z).length = k := ⟨_, rfl⟩
        rw [hpn] at hpf
        subst hpf
        have HPN := Lib.hid hpn
        have hI6 := HR5.out.below hb6
        obtain ⟨f0, f1, f2, fl⟩ := hI6.1.cells
        have hz1 := hI6.1.lit.fz 2
        have HI7 := Lib.hid (hI6.putW (wt := without wt z) hv6 (fun j hj => ⟨Nat.le_trans HR5.out.2.2.size (ho6 j hj), by have := ho6 j hj; have := HR5.out.1.lit.lt; omega, fun e => by have := ho6 j hj; have := HR5.out.1.hd.lt j e; omega⟩))
        have hts := Touch.setCell w6 (F := fun j => j = x) rfl 2 (.slice pa pn pc)
        have hgx : g ≠ x := fun e => HGF.out x (.inl rfl) e.symm
        have hst := hts.stay (G := fun j => j ≠ x) (fun j hj e => hj e)
        have HG7 := Lib.hid ((HG5.out.below hb6).stay hst hgx)
        have hvx : ∀ j, vo.ownBlock = some j → j ≠ x := fun j hj e => (HO.out.2 j hj).2 (.inl e)
        have HO7 : Hid (RowI (w6.setCell ⟨x, 2, none⟩ (.slice pa pn pc)) vo acc) := Lib.hid (RowF.stay (RowF.below HO5.out hb6) hst hvx)
        have HOW : Hid (∀ j, vo.ownBlock = some j → ¬ RkF x s5 (.slice pa pn pc) j) := Lib.hid (fun j hj hf => by
          have hlt5 : j < w5.heap.size := RowF.lt HO5.out j hj
          rcases hf with hf | hf | hf
          · exact hvx j hj hf
          · rcases HS5.out j hf with e | e
            · exact (HO.out.2 j hj).2 (.inr (.inl e))
            · have := HGL2.out.2 j hj; omega
          · have := ho6 j hf; omega)
        clear hv6 ho6 hpn hI6 hts hst hvx HR5 HG5 HO5 hb6 hdr
        unfold RX.lastQ
        go_upto_region 13 with (fail)
        obtain ⟨W7, hW7⟩ : ∃ W7, w6.setCell ⟨x, 2, none⟩ (.slice pa pn pc) = W7 := ⟨_, rfl⟩
        rw [hW7] at HI7 HG7 HO7 ⊢
        clear hW7 f0 f1 f2 fl hz1
        have e0 := HG7.out.cell (o := 0) rfl
        have el := HG7.out.lt
        obtain ⟨a', c', W8, r8, q8, t8, o8⟩ := rowI_push HO7.out z (by have := HL.out.2.2; have := HLEN.out; omega)
        have HR8 := Lib.hid r8
        have hb8 : ∀ j, RkF x s5 (.slice pa pn pc) j → vo.ownBlock ≠ some j := fun j hj e => HOW.out j e hj
        have hst8 := t8.stay (G := fun j => vo.ownBlock ≠ some j) (fun j hj e => hj e)
        have HI8 : Hid (RkI w x s t W8 s5 (.slice pa pn pc) ⟨A.c, giveL hd z m, without wt z⟩) := Lib.hid ⟨HI7.out.1.stay (hst8.mono hb8), HI7.out.2.1, HI7.out.2.2.trans t8 (fun j hj e => by have := (HO.out.2 j e).1; omega)⟩
        obtain ⟨an, han⟩ : ∃ k, acc.length + 1 = k := ⟨_, rfl⟩
        rw [han] at HR8 q8 o8
        have HOn : Hid (RowI W8 (.slice a' an c') (acc ++ [z]) ∧ ∀ k, Value.ownBlock (.slice a' an c') = some k → w.heap.size ≤ k ∧ ¬ RkF x s5 (.slice pa pn pc) k) := Lib.hid ⟨q8, fun j hj => (o8 j hj).elim (fun e => ⟨(HO.out.2 j e).1, HOW.out j e⟩) (fun e => ⟨Nat.le_trans HI7.out.2.2.size e, fun hf => by have := HI7.out.1.lt j hf; omega⟩)⟩
        clear r8 q8 t8 o8 hb8 hst8 han HI7 HG7 HO7 HOW HO
        go_wp2_with (first | (at_builtin; refine append_stepW rfl _ _ 35 rfl _ _ _ _ rfl rfl (HR8.out _) ?_) | fail)
        go_roundg (K * (without wt z).length + (without wt z).length)
        case measure =>
          have h1 := HSN.out.1.2
          have h2 := HLT.out.2.2
          have h3 := HK.out
          have h4 := HL.out.2.1
          have h5 := HN.out
          have h6 : K * n = K * (without wt z).length + K := by rw [← h5, ← h1, Nat.mul_add, Nat.mul_one]
          omega
        case rel => exact ⟨0, _, s5, _, _, _, acc ++ [z], rfl, rfl, Nat.zero_le _, by omega, HOn, HI8, Lib.hid ⟨HSN.out.1.1, HSN.out.2, BlkI.zero _ _ _⟩, Lib.hid ⟨by have h1 := give_len hd z m; have h2 := HSN.out.1.2; have h3 := HL.out.1; omega, by have h2 := HSN.out.1.2; have h3 := HL.out.2.1; omega, by have h2 := HSN.out.1.2; have h3 := HL.out.2.2; rw [List.length_append, List.length_singleton]; omega⟩⟩
      · have hf1 : (0 : Int) < (fl0 : Int) := by omega
        have hne : forL A.c hd (wt.take i) z m ≠ [] := fun e => hf (by rw [← HFL.out, e]; rfl)
        have HB := Lib.hid (BlkI.succ HS.out.2.2 HP.out hne)
        have HOn : Hid (RowI w2 vo acc ∧ ∀ k, vo.ownBlock = some k → w.heap.size ≤ k ∧ ¬ RkF x s' (.slice (some ⟨b, 0, none⟩) n tc) k) := Lib.hid ⟨HO2.out, HO.out.2⟩
        clear hne
        go_wp2_with fail
        go_roundg (K * n + (n - (i + 1)))
        case measure => have := HLT.out; omega
        case rel => exact ⟨i + 1, vo, s', _, hd, wt, acc, rfl, by go_num, by have := HLT.out; have := HN.out; omega, by rw [HN.out]; exact Nat.le_refl _, HOn, HR2, Lib.hid ⟨HS.out.1, HS.out.2.1, HB.out⟩, HL⟩
    · have hltz : ¬ (i : Int) < (n : Int) := by omega
      have hin : i = wt.length := by rw [HN.out]; omega
      have hbl : BlkI A.c hd wt wt.length := by rw [← hin]; exact HS.out.2.2
      have hT := HS.out.1.stop hbl
      simp only [Prod.mk.injEq] at hT
      obtain ⟨q1, q2, q3⟩ := hT
      obtain ⟨va, vc, hvf, -, -⟩ := HO.out.1.form
      obtain ⟨vn, hvn⟩ : ∃ k, acc.length = k := ⟨_, rfl⟩
      rw [hvn] at hvf
      subst hvf
      have HE : Hid (RowI wr (.slice va vn vc) G ∧ (∀ k, Value.ownBlock (.slice va vn vc) = some k → w.heap.size ≤ k) ∧ ∃ s'' t'', RkI w x s t wr s'' t'' ⟨A.c, HD, WT⟩) := Lib.hid ⟨by rw [q3]; exact HO.out.1, fun k hk => (HO.out.2 k hk).1, _, _, by rw [q1, q2]; exact HR.out⟩
      clear hin hbl q1 q2 q3 HO HR HS HL hi hgg hlt hvn
      go_wp2_with fail
      exact bodyPost_ret (v := .tuple #[.slice va vn vc, .int .i64 0]) (by first | (simp [results, Try.results14, go_sem]; done) | (simp [results, Try.results14, go_sem]; rfl)) rfl ⟨_, rfl, HE.out.1, HE.out.2.1, HE.out.2.2⟩

theorem rdrop_is (w : World) (x : Nat) (s t : Value) (A : Lk) (y : Int) (hok : Ok0 A) (hlen : A.hd.length + A.wt.length ≤ 50000) (H : RkM w x s t A) :
    Calls Try.prog 14 #[.pointer (some ⟨x, 0, none⟩), .int .i64 y] w fun e w' => ∃ v, e = .returned (.tuple #[v, .int .i64 (Lk.dropE y)]) ∧ RowI w' v (A.dropG y) ∧ (∀ k, v.ownBlock = some k → w.heap.size ≤ k) ∧ ∃ s' t', RkI w x s t w' s' t' (A.drop y) := by
  unfold Lk.dropE Lk.dropG Lk.drop
  by_cases hy : y < 1
  · rw [if_pos hy, if_pos hy, if_pos hy]
    refine (rdrop_low w x y hy).mono ?_
    rintro e w' ⟨rfl, hb⟩
    exact ⟨_, rfl, RowF.nil _ _ _ _, fun k hk => (by cases hk), s, t, H.below hb, fun j hj => .inl hj, Touch.of_below hb⟩
  · rw [if_neg hy, if_neg hy, if_neg hy]
    exact rdrop_in w x s t A y hok hlen H hy _ _ _ rfl

end Go.Proofs.Ytjjhmfpdbjflmaa
