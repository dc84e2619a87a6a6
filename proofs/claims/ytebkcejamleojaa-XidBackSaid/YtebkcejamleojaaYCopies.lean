/-
  The law XidCopies, walked.
-/
import Derived.Test.YtebkcejamleojaaYWorks
import Derived.Deep.DeepCutAuto
namespace Go.Proofs.Ytebkcejamleojaa
open Go.RowKit
set_option linter.unusedVariables false

theorem get_stpC {l : List Stp} {i : Nat} (h : i < l.length) : ∃ s, l[i]? = some s := ⟨l[i], by simp [h]⟩
theorem run_takeC {T : Tb} {l : List Stp} {i : Nat} {s : Stp} (h : l[i]? = some s) : T.run (l.take (i + 1)) = (T.run (l.take i)).stp s.kind s.id := by
  rw [List.take_add_one, h]
  exact Tb.run_snoc _ _ _
theorem run_smallC {T : Tb} {B : Nat} (hT : T.Small B) {l : List Stp} {n i : Nat} (hn : l.length = n) (h : n ≤ 60) (hB : B ≤ 60) : (T.run (l.take i)).n ≤ 120 ∧ (T.run (l.take i)).last ≤ 120 := by
  have := Tb.Small.run hT (l.take i)
  have hl : (l.take i).length ≤ 60 := by rw [List.length_take]; omega
  exact ⟨by have := this.1; omega, by have := this.2; omega⟩

def AllN (W : World) (T : Tb) (n : Nat) (e : Ending) (w' : World) : Prop := ∃ a c, e = .returned (.slice a n c) ∧ Seen (fun k => W.heap.size ≤ k) w' (.slice a n c) n T ∧ Below W.heap.size W w'
theorem all_n {W : World} {t : Nat} {T : Tb} {F : Nat → Prop} {n : Nat} (h : Is W t T F) (hn : T.n = n) (hle : n ≤ 1000) : Calls Try.prog 32 #[.pointer (some ⟨t, 0, none⟩)] W fun e w' => AllN W T n e w' := by
  subst hn
  exact all_is W t T F hle h

theorem drewN_bel (w : World) (n : Nat) : Below w.heap.size w (w.drewN n) := ⟨rfl, rfl, rfl, Nat.le_refl _, fun _ _ => rfl⟩

/-- Records that are the same are not told apart. -/
theorem neq_seen (a b c : Int) (d : Bool) (w : World) : (Go.binOp .neq 47 (.agg #[.int .u8 a, .int .i64 b, .int .i64 c, .bool d]) (.agg #[.int .u8 a, .int .i64 b, .int .i64 c, .bool d])).run Try.prog w = .ok (.bool false) w := by
  go_simp

/-- A record of what is told. -/
theorem Seen.at {G : Nat → Prop} {W : World} {a : Option Addr} {n c i : Nat} {T : Tb} (h : Seen G W (.slice a n c) n T) (hi : i < n) : ∃ b, a = some ⟨b, 0, none⟩ ∧ n ≤ c ∧ b < W.heap.size ∧ W.cell? ⟨b, i * 4, none⟩ = some (.int .u8 (T.g T.st ((i : Int) + 1))) ∧ W.cell? ⟨b, i * 4 + 1, none⟩ = some (.int .i64 (T.g T.top ((i : Int) + 1))) ∧
    W.cell? ⟨b, i * 4 + 2, none⟩ = some (.int .i64 (T.numI ((i : Int) + 1))) ∧ W.cell? ⟨b, i * 4 + 3, none⟩ = some (.bool (T.cnt ((i : Int) + 1))) := by
  obtain ⟨b, c', e, hnc, hcm, hb, hat, _⟩ := h.row.at hi
  simp only [Value.slice.injEq, true_and] at e
  obtain ⟨rfl, rfl⟩ := e
  exact ⟨b, rfl, hnc, hb, hat i hi 0 _ rfl, hat i hi 1 _ rfl, hat i hi 2 _ rfl, hat i hi 3 _ rfl⟩

set_option maxRecDepth 100000 in
set_option maxHeartbeats 8000000 in
theorem xcopies_large (a0 : Option Addr) (c0 n0 : Nat) (l0 : List Stp) (a1 : Option Addr) (c1 n1 : Nat) (l1 : List Stp) (hn0 : l0.length = n0) (hn1 : l1.length = n1) (w : World) (hs0 : SlSt w a0 c0 l0) (hs1 : SlSt w a1 c1 l1) (hz : 60 < n0) :
    Calls Try.prog 9 #[.slice a0 n0 c0, .slice a1 n1 c1] w fun e w' => e = .returned (.bool true) ∧ Below w.heap.size w w' := by
  have hz2 : (60 : Int) < n0 := by omega
  go_enter Try.func9, Try.ntmps9
  have hcon := works_is w
  go_wp2_with fail
  refine (show Calls Try.prog _ _ _ _ from hcon).mono ?_
  rintro e w1 ⟨rfl, hb⟩
  have HB1 := Lib.hid hb
  clear hcon hb
  have hcon := works_is w1
  go_wp2_with fail
  refine (show Calls Try.prog _ _ _ _ from hcon).mono ?_
  rintro e w2 ⟨rfl, hb⟩
  have HB2 := Lib.hid (below_tr HB1.out hb)
  clear hcon hb HB1
  go_wp2_with fail
  go_ret
  exact ⟨rfl, HB2.out⟩

set_option maxRecDepth 100000 in
set_option maxHeartbeats 8000000 in
theorem xcopies_wide (a0 : Option Addr) (c0 n0 : Nat) (l0 : List Stp) (a1 : Option Addr) (c1 n1 : Nat) (l1 : List Stp) (hn0 : l0.length = n0) (hn1 : l1.length = n1) (w : World) (hs0 : SlSt w a0 c0 l0) (hs1 : SlSt w a1 c1 l1) (hz : n0 ≤ 60) (hy : 60 < n1) :
    Calls Try.prog 9 #[.slice a0 n0 c0, .slice a1 n1 c1] w fun e w' => e = .returned (.bool true) ∧ Below w.heap.size w w' := by
  have hz2 : ¬ (60 : Int) < n0 := by omega
  have hy2 : (60 : Int) < n1 := by omega
  go_enter Try.func9, Try.ntmps9
  have hcon := works_is w
  go_wp2_with fail
  refine (show Calls Try.prog _ _ _ _ from hcon).mono ?_
  rintro e w1 ⟨rfl, hb⟩
  have HB1 := Lib.hid hb
  clear hcon hb
  have hcon := works_is w1
  go_wp2_with fail
  refine (show Calls Try.prog _ _ _ _ from hcon).mono ?_
  rintro e w2 ⟨rfl, hb⟩
  have HB2 := Lib.hid (below_tr HB1.out hb)
  clear hcon hb HB1
  go_wp2_with fail
  go_ret
  exact ⟨rfl, HB2.out⟩

set_option maxRecDepth 100000 in
set_option maxHeartbeats 8000000 in
theorem xcopies_main (a0 : Option Addr) (c0 n0 : Nat) (l0 : List Stp) (a1 : Option Addr) (c1 n1 : Nat) (l1 : List Stp) (hn0 : l0.length = n0) (hn1 : l1.length = n1) (w : World) (hs0 : SlSt w a0 c0 l0) (hs1 : SlSt w a1 c1 l1) (hz : n0 ≤ 60) (hy : n1 ≤ 60) :
    Calls Try.prog 9 #[.slice a0 n0 c0, .slice a1 n1 c1] w fun e w' => e = .returned (.bool true) ∧ Below w.heap.size w w' := by
  have hz2 : ¬ (60 : Int) < n0 := by omega
  have hy2 : ¬ (60 : Int) < n1 := by omega
  have HS0 := Lib.hid hs0
  have HS1 := Lib.hid hs1
  have HN0 := Lib.hid hn0
  have HN1 := Lib.hid hn1
  clear hs0 hs1 hn0 hn1
  go_enter Try.func9, Try.ntmps9
  have hcon := works_is w
  go_wp2_with fail
  refine (show Calls Try.prog _ _ _ _ from hcon).mono ?_
  rintro e w1 ⟨rfl, hb⟩
  have HB1 := Lib.hid hb
  clear hcon hb
  have hcon := one_new (w0 := w) HB1.out
  go_wp2_with fail
  refine (show Calls Try.prog _ _ _ _ from hcon).mono ?_
  rintro e w2 ⟨t, F0, rfl, h2, -, -⟩
  have HO1 := Lib.hid h2
  clear hcon h2 HB1
  go_wp2_with fail
  go_loopg [6] n0 (fun gg sx wr => ∃ (i : Nat) (F : Nat → Prop), sx = .int .i64 i ∧ i ≤ n0 ∧ n0 - i ≤ gg ∧ Hid (One w wr t (Tb.new.run (l0.take i)) F))
  case atStart => exact ⟨0, _, rfl, Nat.zero_le _, by omega, HO1⟩
  case round =>
    obtain ⟨i, F, rfl, hin, hgg, HO⟩ := hrel
    clear HO1
    have hsm := run_smallC (i := i) Tb.new_small HN0.out hz (by omega)
    by_cases hlt : i < n0
    · have hltz : (i : Int) < (n0 : Int) := by omega
      obtain ⟨st, hst⟩ := get_stpC (l := l0) (i := i) (by rw [HN0.out]; exact hlt)
      have hsl := HS0.out.below HO.out.bel
      obtain ⟨sb, so, rfl, d0, d1, d2⟩ := at_st hsl hst
      have hwf := hsl.wf st (List.mem_of_getElem? hst)
      have hlc : n0 ≤ c0 := by have := hsl.lc; rw [HN0.out] at this; exact this
      have hrun := run_takeC (T := Tb.new) hst
      have hcon := one_do HO.out (by omega) (by omega) st.kind st.id _ _ hwf.1 hwf.2 rfl rfl hrun.symm
      clear hwf hrun hst hsm hsl
      go_wp2_with fail
      refine (show Calls Try.prog _ _ _ _ from hcon).mono ?_
      rintro e w3 ⟨F', rfl, ho3, ht3, hf3⟩
      have HO3 := Lib.hid ho3
      clear hcon ho3 ht3 hf3 d0 d1 d2 HO
      go_wp2_with fail
      go_roundg (n0 - (i + 1))
      case measure => omega
      case rel => exact ⟨i + 1, F', by go_num, by omega, Nat.le_refl _, HO3⟩
    · have hltz : ¬ (i : Int) < (n0 : Int) := by omega
      obtain rfl : n0 = i := by omega
      have hfull : l0.take n0 = l0 := List.take_of_length_le (by rw [HN0.out]; exact Nat.le_refl _)
      rw [hfull] at HO hsm
      clear hfull
      obtain ⟨T, hT⟩ : ∃ T, Tb.new.run l0 = T := ⟨_, rfl⟩
      obtain ⟨n, hn9⟩ : ∃ n, T.n = n := ⟨_, rfl⟩
      rw [hT] at HO hsm
      have hsmT : T.Small 60 := by have := Tb.Small.run Tb.new_small l0; rw [hT, HN0.out] at this; exact ⟨by have := this.1; omega, by have := this.2; omega⟩
      have hn10 : n ≤ 60 := by have := hsmT.1; omega
      have HT9 := Lib.hid hn9
      have HSM := Lib.hid hsmT
      clear hsm hT hn9 hsmT
      have hcon := all_n HO.out.is HT9.out (by omega)
      go_wp2_with fail
      refine (show Calls Try.prog _ _ _ _ from hcon).mono ?_
      rintro e w4 ⟨aw, cw, rfl, hsw, hb⟩
      have HO4 := Lib.hid (HO.out.below hb)
      have HW4 := Lib.hid hsw
      clear hcon hsw hb HO
      have hcon := copy_is w4 t T F (by rw [HT9.out]; omega) HO4.out.is
      unfold ptrV at hcon
      go_wp2_with fail
      refine (show Calls Try.prog _ _ _ _ from hcon).mono ?_
      rintro e w5 ⟨tc, Fc, rfl, hc5, hfc5, hb⟩
      have HO5 := Lib.hid (HO4.out.below hb)
      have HW5 := Lib.hid (HW4.out.below hb)
      have HC5 : Hid (One w4 w5 tc T Fc) := Lib.hid ⟨hc5, hfc5, hb⟩
      have HS4 := Lib.hid (HS1.out.below HO4.out.bel)
      clear hcon hc5 hfc5 hb HO5 HW5
      go_wp2_with fail
      go_loopg [9] n1 (fun gg sx wr => ∃ (i : Nat) (F2 : Nat → Prop), sx = .int .i64 i ∧ i ≤ n1 ∧ n1 - i ≤ gg ∧ Hid (One w4 wr tc (T.run (l1.take i)) F2))
      case atStart => exact ⟨0, _, rfl, Nat.zero_le _, by omega, HC5⟩
      case round =>
        obtain ⟨i, F2, rfl, hin, hgg, HO⟩ := hrel
        clear HC5
        have hsm := run_smallC (i := i) HSM.out HN1.out hy (Nat.le_refl _)
        by_cases hlt : i < n1
        · have hltz : (i : Int) < (n1 : Int) := by omega
          obtain ⟨st, hst⟩ := get_stpC (l := l1) (i := i) (by rw [HN1.out]; exact hlt)
          have hsl := HS4.out.below HO.out.bel
          obtain ⟨sb, so, rfl, d0, d1, d2⟩ := at_st hsl hst
          have hwf := hsl.wf st (List.mem_of_getElem? hst)
          have hlc : n1 ≤ c1 := by have := hsl.lc; rw [HN1.out] at this; exact this
          have hrun := run_takeC (T := T) hst
          have hcon := one_do HO.out (by omega) (by omega) st.kind st.id _ _ hwf.1 hwf.2 rfl rfl hrun.symm
          clear hwf hrun hst hsm hsl
          go_wp2_with fail
          refine (show Calls Try.prog _ _ _ _ from hcon).mono ?_
          rintro e w3 ⟨F', rfl, ho3, ht3, hf3⟩
          have HO3 := Lib.hid ho3
          clear hcon ho3 ht3 hf3 d0 d1 d2 HO
          go_wp2_with fail
          go_roundg (n1 - (i + 1))
          case measure => omega
          case rel => exact ⟨i + 1, F', by go_num, by omega, Nat.le_refl _, HO3⟩
        · have hltz : ¬ (i : Int) < (n1 : Int) := by omega
          obtain rfl : n1 = i := by omega
          have hfull : l1.take n1 = l1 := List.take_of_length_le (by rw [HN1.out]; exact Nat.le_refl _)
          rw [hfull] at HO hsm
          clear hfull
          obtain ⟨T2, hT2⟩ : ∃ T2, T.run l1 = T2 := ⟨_, rfl⟩
          obtain ⟨n2, hn29⟩ : ∃ n2, T2.n = n2 := ⟨_, rfl⟩
          rw [hT2] at HO hsm
          have hn210 : n2 ≤ 120 := by have := hsm.1; omega
          have HT2 := Lib.hid hT2
          have HN2 := Lib.hid hn29
          clear hsm hT2 hn29
          have hcon := all_n HO.out.is HN2.out (by omega)
          go_wp2_with fail
          refine (show Calls Try.prog _ _ _ _ from hcon).mono ?_
          rintro e w7 ⟨ax, cx, rfl, hsx, hb⟩
          have HC7 := Lib.hid (HO.out.below hb)
          have HX7 := Lib.hid hsx
          have HWR : Hid (w4.heap.size ≤ wr.heap.size) := Lib.hid HO.out.bel.size
          clear hcon hsx hb HO
          have hcon := all_n (HO4.out.is.below HC7.out.bel) HT9.out (by omega)
          go_wp2_with fail
          refine (show Calls Try.prog _ _ _ _ from hcon).mono ?_
          rintro e w8 ⟨ay, cy, rfl, hsy, hb⟩
          have HC8 := Lib.hid (HC7.out.below hb)
          have HX8 := Lib.hid (HX7.out.below hb)
          have HY8 := Lib.hid hsy
          have HW8 := Lib.hid (HW4.out.below HC8.out.bel)
          have HT8 := Lib.hid (HO4.out.below HC8.out.bel)
          clear hcon hsy hb HC7 HX7
          go_wp2_with fail
          go_loopg [12] n (fun gg s wr => ∃ (i : Nat), s = .int .i64 i ∧ i ≤ n ∧ n - i ≤ gg ∧ Hid (Below w8.heap.size w8 wr))
          case atStart => exact ⟨0, rfl, Nat.zero_le _, by omega, Lib.hid (Below.refl _ _)⟩
          case round =>
            obtain ⟨i, rfl, hin, hgg, HBW⟩ := hrel
            by_cases hlt : i < n
            · have hltz : (i : Int) < (n : Int) := by omega
              have hi0 : (0 : Int) ≤ i := by omega
              obtain ⟨bx, rfl, hxc, hxl, x0, x1, x2, x3⟩ := Seen.at (HY8.out.below HBW.out) hlt
              obtain ⟨by', rfl, hyc, hyl, y0, y1, y2, y3⟩ := Seen.at (HW8.out.below HBW.out) hlt
              have hne := neq_seen (T.g T.st ((i : Int) + 1)) (T.g T.top ((i : Int) + 1)) (T.numI ((i : Int) + 1)) (T.cnt ((i : Int) + 1))
              go_wp2_with fail
              go_quiet (fail)
              go_wp2_with fail
              go_roundg (n - (i + 1))
              case measure => omega
              case rel => exact ⟨i + 1, by go_num, by omega, Nat.le_refl _, Lib.hid (below_tr HBW.out (drewN_bel _ _))⟩
            · obtain rfl : n = i := by omega
              have hltz : ¬ (n : Int) < (n : Int) := by omega
              clear HY8 HW8
              obtain ⟨wA, rfl⟩ : ∃ wA, wA = wr := ⟨wr, rfl⟩
              have HTA := Lib.hid (HT8.out.below HBW.out)
              have HCA := Lib.hid (HC8.out.is.below HBW.out)
              have HFC := Lib.hid HC8.out.far
              have HXA := Lib.hid (HX8.out.below HBW.out)
              have HFL : Hid (∀ k, F k → k < w4.heap.size) := Lib.hid HO4.out.is.lt
              have HTO0 : Hid (Touch F wA wA) := Lib.hid (Touch.refl _ _)
              have HSB0 : Hid (∀ k, F k → F k ∨ wA.heap.size ≤ k) := Lib.hid (fun k hk => .inl hk)
              clear HBW HT8 HC8 HX8 hltz
              go_wp2_with fail
              go_loopg [13] n1 (fun gg sx wr => ∃ (i : Nat) (F4 : Nat → Prop), sx = .int .i64 i ∧ i ≤ n1 ∧ n1 - i ≤ gg ∧ Hid (One w wr t (T.run (l1.take i)) F4) ∧ Hid (Touch F wA wr) ∧ Hid (∀ k, F4 k → F k ∨ wA.heap.size ≤ k))
              case atStart => exact ⟨0, _, rfl, Nat.zero_le _, by omega, HTA, HTO0, HSB0⟩
              case round =>
                obtain ⟨i, F4, rfl, hin, hgg, HO, HTO, HSB⟩ := hrel
                clear HTA HTO0 HSB0
                have hsm := run_smallC (i := i) HSM.out HN1.out hy (Nat.le_refl _)
                by_cases hlt : i < n1
                · have hltz : (i : Int) < (n1 : Int) := by omega
                  obtain ⟨st, hst⟩ := get_stpC (l := l1) (i := i) (by rw [HN1.out]; exact hlt)
                  have hsl := HS1.out.below HO.out.bel
                  obtain ⟨sb, so, rfl, d0, d1, d2⟩ := at_st hsl hst
                  have hwf := hsl.wf st (List.mem_of_getElem? hst)
                  have hlc : n1 ≤ c1 := by have := hsl.lc; rw [HN1.out] at this; exact this
                  have hrun := run_takeC (T := T) hst
                  have hcon := one_do HO.out (by omega) (by omega) st.kind st.id _ _ hwf.1 hwf.2 rfl rfl hrun.symm
                  clear hwf hrun hst hsm hsl
                  go_wp2_with fail
                  refine (show Calls Try.prog _ _ _ _ from hcon).mono ?_
                  rintro e w3 ⟨F', rfl, ho3, ht3, hf3⟩
                  have HO3 := Lib.hid ho3
                  have HTO3 : Hid (Touch F wA w3) := Lib.hid (HTO.out.trans ht3 (fun k hk hx => (HSB.out k hx).elim (fun h => h) (fun h => by omega)))
                  have HSB3 : Hid (∀ k, F' k → F k ∨ wA.heap.size ≤ k) := Lib.hid (fun k hx => (hf3 k hx).elim (HSB.out k) (fun h => .inr (Nat.le_trans HTO.out.size h)))
                  clear HTO HSB
                  clear hcon ho3 ht3 hf3 d0 d1 d2 HO
                  go_wp2_with fail
                  go_roundg (n1 - (i + 1))
                  case measure => omega
                  case rel => exact ⟨i + 1, F', by go_num, by omega, Nat.le_refl _, HO3, HTO3, HSB3⟩
                · have hltz : ¬ (i : Int) < (n1 : Int) := by omega
                  obtain rfl : n1 = i := by omega
                  have hfull : l1.take n1 = l1 := List.take_of_length_le (by rw [HN1.out]; exact Nat.le_refl _)
                  rw [hfull] at HO hsm
                  clear hfull
                  rw [HT2.out] at HO
                  have hst : Stay (fun k => w4.heap.size ≤ k) wA wr := HTO.out.stay (fun k hk hx => by have := HFL.out k hx; omega)
                  have HCL := Lib.hid (HCA.out.stay (hst.mono HFC.out))
                  have HXL := Lib.hid (HXA.out.stay (hst.mono (fun k hk => Nat.le_trans HWR.out hk)))
                  clear hst hsm HTO HSB HCA HXA
                  have hcon := all_n HO.out.is HN2.out (by omega)
                  go_wp2_with fail
                  refine (show Calls Try.prog _ _ _ _ from hcon).mono ?_
                  rintro e w10 ⟨az, cz, rfl, hsz, hb⟩
                  have HO10 := Lib.hid (HO.out.below hb)
                  have HX10 := Lib.hid (HXL.out.below hb)
                  have HC10 := Lib.hid (HCL.out.below hb)
                  have HZ10 := Lib.hid hsz
                  clear hcon hsz hb HO HXL HCL
                  have hcon := last_is w10 tc T2 _ HC10.out.tab
                  unfold ptrV at hcon
                  go_wp2_with fail
                  refine (show Calls Try.prog _ _ _ _ from hcon).mono ?_
                  rintro e w11 ⟨rfl, hb⟩
                  have HO11 := Lib.hid (HO10.out.below hb)
                  have HX11 := Lib.hid (HX10.out.below hb)
                  have HZ11 := Lib.hid (HZ10.out.below hb)
                  clear hcon hb HO10 HX10 HC10 HZ10
                  have hcon := one_last HO11.out _ rfl
                  go_wp2_with fail
                  refine (show Calls Try.prog _ _ _ _ from hcon).mono ?_
                  rintro e w12 ⟨rfl, hb⟩
                  have HO12 := Lib.hid (HO11.out.below hb)
                  have HX12 := Lib.hid (HX11.out.below hb)
                  have HZ12 := Lib.hid (HZ11.out.below hb)
                  clear hcon hb HO11 HX11 HZ11
                  go_wp2_with fail
                  go_loopg [14] n2 (fun gg s wr => ∃ (i : Nat), s = .int .i64 i ∧ i ≤ n2 ∧ n2 - i ≤ gg ∧ Hid (Below w12.heap.size w12 wr))
                  case atStart => exact ⟨0, rfl, Nat.zero_le _, by omega, Lib.hid (Below.refl _ _)⟩
                  case round =>
                    obtain ⟨i, rfl, hin, hgg, HBW⟩ := hrel
                    by_cases hlt : i < n2
                    · have hltz : (i : Int) < (n2 : Int) := by omega
                      have hi0 : (0 : Int) ≤ i := by omega
                      obtain ⟨bx, rfl, hxc, hxl, x0, x1, x2, x3⟩ := Seen.at (HX12.out.below HBW.out) hlt
                      obtain ⟨by', rfl, hyc, hyl, y0, y1, y2, y3⟩ := Seen.at (HZ12.out.below HBW.out) hlt
                      have hne := neq_seen (T2.g T2.st ((i : Int) + 1)) (T2.g T2.top ((i : Int) + 1)) (T2.numI ((i : Int) + 1)) (T2.cnt ((i : Int) + 1))
                      go_wp2_with fail
                      go_quiet (fail)
                      go_wp2_with fail
                      go_roundg (n2 - (i + 1))
                      case measure => omega
                      case rel => exact ⟨i + 1, by go_num, by omega, Nat.le_refl _, Lib.hid (below_tr HBW.out (drewN_bel _ _))⟩
                    · obtain rfl : n2 = i := by omega
                      have hltz : ¬ (n2 : Int) < (n2 : Int) := by omega
                      go_wp2_with fail
                      go_ret
                      exact ⟨rfl, below_tr HO12.out.bel HBW.out⟩

theorem xcopies_law (a0 : Option Addr) (c0 n0 : Nat) (l0 : List Stp) (a1 : Option Addr) (c1 n1 : Nat) (l1 : List Stp) (hn0 : l0.length = n0) (hn1 : l1.length = n1) (w : World) (hs0 : SlSt w a0 c0 l0) (hs1 : SlSt w a1 c1 l1) :
    Calls Try.prog 9 #[.slice a0 n0 c0, .slice a1 n1 c1] w fun e w' => e = .returned (.bool true) ∧ Below w.heap.size w w' := by
  by_cases hz : 60 < n0
  · exact xcopies_large a0 c0 n0 l0 a1 c1 n1 l1 hn0 hn1 w hs0 hs1 hz
  · by_cases hy : 60 < n1
    · exact xcopies_wide a0 c0 n0 l0 a1 c1 n1 l1 hn0 hn1 w hs0 hs1 (by omega) hy
    · exact xcopies_main a0 c0 n0 l0 a1 c1 n1 l1 hn0 hn1 w hs0 hs1 (by omega) (by omega)

end Go.Proofs.Ytebkcejamleojaa
