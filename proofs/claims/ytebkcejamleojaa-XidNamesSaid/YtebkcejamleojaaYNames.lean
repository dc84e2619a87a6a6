/-
  The law XidNames, walked.
-/
import Derived.Test.YtebkcejamleojaaYWorks
namespace Go.Proofs.Ytebkcejamleojaa
open Go.RowKit
set_option linter.unusedVariables false

def tn0 : Tb := Tb.new

def tnl0 : Tb := tn0
def tnl : Nat → Tb
  | 0 => tnl0
  | 1 => tnl0.begT 0
  | 2 => (tnl0.begT 0).begT 1
  | 3 => ((tnl0.begT 0).begT 1).begT 1
  | 4 => (((tnl0.begT 0).begT 1).begT 1).begT 2
  | _ + 5 => ((((tnl0.begT 0).begT 1).begT 1).begT 2).begT 0
def tm0 : Tb := tnl 5
def tm1 : Tb := tm0.aboT 3
def tm2 : Tb := tm1.comT 5
def tm3 : Tb := tm2.comT 1

set_option maxRecDepth 100000 in
set_option maxHeartbeats 8000000 in
theorem names_law (w : World) : Calls Try.prog 3 #[] w fun e w' => e = .returned (.bool true) ∧ Below w.heap.size w w' := by
  have HB0 : Hid (Below w.heap.size w w) := Lib.hid (Below.refl _ _)
  go_enter Try.func3, Try.ntmps3
  have hcon := begin_nil w 0
  go_wp2_with fail
  refine (show Calls Try.prog _ _ _ _ from hcon).mono ?_
  rintro e w1 ⟨rfl, hb1⟩
  have HB1 := Lib.hid (below_tr HB0.out hb1)
  clear hcon hb1 HB0
  have hcon := works_is w1 
  go_wp2_with fail
  refine (show Calls Try.prog _ _ _ _ from hcon).mono ?_
  rintro e w2 ⟨rfl, hb2⟩
  have HB2 := Lib.hid (below_tr HB1.out hb2)
  clear hcon hb2 HB1
  have hcon := commit_nil w2 1
  go_wp2_with fail
  refine (show Calls Try.prog _ _ _ _ from hcon).mono ?_
  rintro e w3 ⟨rfl, hb3⟩
  have HB3 := Lib.hid (below_tr HB2.out hb3)
  clear hcon hb3 HB2
  have hcon := abort_nil w3 1
  go_wp2_with fail
  refine (show Calls Try.prog _ _ _ _ from hcon).mono ?_
  rintro e w4 ⟨rfl, hb4⟩
  have HB4 := Lib.hid (below_tr HB3.out hb4)
  clear hcon hb4 HB3
  have hcon := st_nil w4 1
  go_wp2_with fail
  refine (show Calls Try.prog _ _ _ _ from hcon).mono ?_
  rintro e w5 ⟨rfl, hb5⟩
  have HB5 := Lib.hid (below_tr HB4.out hb5)
  clear hcon hb5 HB4
  have hcon := top_nil w5 1
  go_wp2_with fail
  refine (show Calls Try.prog _ _ _ _ from hcon).mono ?_
  rintro e w6 ⟨rfl, hb6⟩
  have HB6 := Lib.hid (below_tr HB5.out hb6)
  clear hcon hb6 HB5
  have hcon := number_nil w6 1
  go_wp2_with fail
  refine (show Calls Try.prog _ _ _ _ from hcon).mono ?_
  rintro e w7 ⟨rfl, hb7⟩
  have HB7 := Lib.hid (below_tr HB6.out hb7)
  clear hcon hb7 HB6
  have hcon := last_nil w7 
  go_wp2_with fail
  refine (show Calls Try.prog _ _ _ _ from hcon).mono ?_
  rintro e w8 ⟨rfl, hb8⟩
  have HB8 := Lib.hid (below_tr HB7.out hb8)
  clear hcon hb8 HB7
  have hcon := len_nil w8 
  go_wp2_with fail
  refine (show Calls Try.prog _ _ _ _ from hcon).mono ?_
  rintro e w9 ⟨rfl, hb9⟩
  have HB9 := Lib.hid (below_tr HB8.out hb9)
  clear hcon hb9 HB8
  have hcon := counts_nil w9 1
  go_wp2_with fail
  refine (show Calls Try.prog _ _ _ _ from hcon).mono ?_
  rintro e w10 ⟨rfl, hb10⟩
  have HB10 := Lib.hid (below_tr HB9.out hb10)
  clear hcon hb10 HB9
  have hcon := copy_nil w10 
  go_wp2_with fail
  refine (show Calls Try.prog _ _ _ _ from hcon).mono ?_
  rintro e w11 ⟨rfl, hb11⟩
  have HB11 := Lib.hid (below_tr HB10.out hb11)
  clear hcon hb11 HB10
  have hcon := one_new (w0 := w) HB11.out
  go_wp2_with fail
  refine (show Calls Try.prog _ _ _ _ from hcon).mono ?_
  rintro e w12 ⟨t, F0, rfl, h12, -, -⟩
  have H12 := Lib.hid h12
  clear hcon h12 HB11
  change Hid (One w w12 t tn0 F0) at H12
  have hcon := one_begin (T' := tn0) H12.out (by decide +kernel) (-1) 0 5 (by unfold I64; omega) (by decide +kernel) (by decide +kernel) (if_neg (by decide +kernel))
  go_wp2_with fail
  refine (show Calls Try.prog _ _ _ _ from hcon).mono ?_
  rintro e w13 ⟨F13, rfl, h13, -, -⟩
  have H13 := Lib.hid h13
  clear hcon h13 H12
  have hcon := one_begin (T' := tn0) H13.out (by decide +kernel) 1 0 5 (by unfold I64; omega) (by decide +kernel) (by decide +kernel) (if_neg (by decide +kernel))
  go_wp2_with fail
  refine (show Calls Try.prog _ _ _ _ from hcon).mono ?_
  rintro e w14 ⟨F14, rfl, h14, -, -⟩
  have H14 := Lib.hid h14
  clear hcon h14 H13
  have hcon := one_commit (T' := tn0) H14.out (by decide +kernel) (by decide +kernel) 0 5 (by unfold I64; omega) (by decide +kernel) (if_neg (by decide +kernel))
  go_wp2_with fail
  refine (show Calls Try.prog _ _ _ _ from hcon).mono ?_
  rintro e w15 ⟨F15, rfl, h15, -, -⟩
  have H15 := Lib.hid h15
  clear hcon h15 H14
  have hcon := one_abort (T' := tn0) H15.out (by decide +kernel) 1 5 (by unfold I64; omega) (by decide +kernel) (if_neg (by decide +kernel))
  go_wp2_with fail
  refine (show Calls Try.prog _ _ _ _ from hcon).mono ?_
  rintro e w16 ⟨F16, rfl, h16, -, -⟩
  have H16 := Lib.hid h16
  clear hcon h16 H15
  have hcon := one_counts H16.out 0 false (by unfold I64; omega) (by decide +kernel)
  go_wp2_with fail
  refine (show Calls Try.prog _ _ _ _ from hcon).mono ?_
  rintro e w17 ⟨rfl, hb17⟩
  have H17 := Lib.hid (H16.out.below hb17)
  clear hcon hb17 H16
  have hcon := one_counts H17.out 1 false (by unfold I64; omega) (by decide +kernel)
  go_wp2_with fail
  refine (show Calls Try.prog _ _ _ _ from hcon).mono ?_
  rintro e w18 ⟨rfl, hb18⟩
  have H18 := Lib.hid (H17.out.below hb18)
  clear hcon hb18 H17
  have hcon := one_len H18.out 0 (by decide +kernel)
  go_wp2_with fail
  refine (show Calls Try.prog _ _ _ _ from hcon).mono ?_
  rintro e w19 ⟨rfl, hb19⟩
  have H19 := Lib.hid (H18.out.below hb19)
  clear hcon hb19 H18
  obtain ⟨g, hg⟩ : ∃ g, w19.heap.size = g := ⟨_, rfl⟩
  have HFG : Hid (¬ F16 g) := Lib.hid (fun hx => by have := H19.out.is.lt g hx; omega)
  have hl := Lit.new w19 3 [.int .i64 0, .int .i64 1, .int .i64 1, .int .i64 2, .int .i64 0]
  have hal := Below.allocs w19 (.cells #[.int .i64 0, .int .i64 1, .int .i64 1, .int .i64 2, .int .i64 0] 3)
  have HA : Hid (One w _ t tnl0 _) := Lib.hid (H19.out.below hal)
  rw [hg] at hl
  have HL := Lib.hid hl
  have HG := Lib.hid hg
  clear hl hal hg H19
  go_wp2_with fail
  simp only [HG.out]
  go_loopg [124] 5 (fun gg s124 wr => ∃ (i : Nat) (F : Nat → Prop), s124 = .int .i64 i ∧ i ≤ 5 ∧ 5 - i ≤ gg ∧ Hid (One w wr t (tnl i) F) ∧ Hid (Lit wr g 3 [.int .i64 0, .int .i64 1, .int .i64 1, .int .i64 2, .int .i64 0]) ∧ Hid (¬ F g))
  case atStart => exact ⟨0, _, rfl, Nat.zero_le _, by omega, HA, HL, HFG⟩
  case round =>
    obtain ⟨i, F, rfl, hin, hgg, HO, HL2, HFH⟩ := hrel
    clear HA HL HG HFG
    have hcases : i = 0 ∨ i = 1 ∨ i = 2 ∨ i = 3 ∨ i = 4 ∨ i = 5 := by omega
    rcases hcases with rfl | rfl | rfl | rfl | rfl | rfl
    · have c0 := HL2.out.cell (o := 0) rfl
      have glt := HL2.out.lt
      have hcon := one_begin (T' := tnl 1) HO.out (by decide +kernel) 0 1 0 (by unfold I64; omega) (by decide +kernel) (by decide +kernel) rfl
      go_wp2_with fail
      refine (show Calls Try.prog _ _ _ _ from hcon).mono ?_
      rintro e w1' ⟨F', rfl, h1, ht, hF'⟩
      have H1 := Lib.hid h1
      have HL3 := Lib.hid (HL2.out.stay (ht.stay (G := fun k => k = g) (fun k hk hx => HFH.out (by rw [← hk]; exact hx))) rfl)
      have HF2 : Hid (¬ F' g) := Lib.hid (fun hx => (hF' g hx).elim HFH.out (fun h => by omega))
      clear h1 ht hF' hcon c0 glt
      go_wp2_with fail
      go_roundg (5 - 1)
      case measure => omega
      case rel => exact ⟨1, F', by go_num, by omega, by omega, H1, HL3, HF2⟩
    · have c0 := HL2.out.cell (o := 1) rfl
      have glt := HL2.out.lt
      have hcon := one_begin (T' := tnl 2) HO.out (by decide +kernel) 1 2 0 (by unfold I64; omega) (by decide +kernel) (by decide +kernel) rfl
      go_wp2_with fail
      refine (show Calls Try.prog _ _ _ _ from hcon).mono ?_
      rintro e w1' ⟨F', rfl, h1, ht, hF'⟩
      have H1 := Lib.hid h1
      have HL3 := Lib.hid (HL2.out.stay (ht.stay (G := fun k => k = g) (fun k hk hx => HFH.out (by rw [← hk]; exact hx))) rfl)
      have HF2 : Hid (¬ F' g) := Lib.hid (fun hx => (hF' g hx).elim HFH.out (fun h => by omega))
      clear h1 ht hF' hcon c0 glt
      go_wp2_with fail
      go_roundg (5 - 2)
      case measure => omega
      case rel => exact ⟨2, F', by go_num, by omega, by omega, H1, HL3, HF2⟩
    · have c0 := HL2.out.cell (o := 2) rfl
      have glt := HL2.out.lt
      have hcon := one_begin (T' := tnl 3) HO.out (by decide +kernel) 1 3 0 (by unfold I64; omega) (by decide +kernel) (by decide +kernel) rfl
      go_wp2_with fail
      refine (show Calls Try.prog _ _ _ _ from hcon).mono ?_
      rintro e w1' ⟨F', rfl, h1, ht, hF'⟩
      have H1 := Lib.hid h1
      have HL3 := Lib.hid (HL2.out.stay (ht.stay (G := fun k => k = g) (fun k hk hx => HFH.out (by rw [← hk]; exact hx))) rfl)
      have HF2 : Hid (¬ F' g) := Lib.hid (fun hx => (hF' g hx).elim HFH.out (fun h => by omega))
      clear h1 ht hF' hcon c0 glt
      go_wp2_with fail
      go_roundg (5 - 3)
      case measure => omega
      case rel => exact ⟨3, F', by go_num, by omega, by omega, H1, HL3, HF2⟩
    · have c0 := HL2.out.cell (o := 3) rfl
      have glt := HL2.out.lt
      have hcon := one_begin (T' := tnl 4) HO.out (by decide +kernel) 2 4 0 (by unfold I64; omega) (by decide +kernel) (by decide +kernel) rfl
      go_wp2_with fail
      refine (show Calls Try.prog _ _ _ _ from hcon).mono ?_
      rintro e w1' ⟨F', rfl, h1, ht, hF'⟩
      have H1 := Lib.hid h1
      have HL3 := Lib.hid (HL2.out.stay (ht.stay (G := fun k => k = g) (fun k hk hx => HFH.out (by rw [← hk]; exact hx))) rfl)
      have HF2 : Hid (¬ F' g) := Lib.hid (fun hx => (hF' g hx).elim HFH.out (fun h => by omega))
      clear h1 ht hF' hcon c0 glt
      go_wp2_with fail
      go_roundg (5 - 4)
      case measure => omega
      case rel => exact ⟨4, F', by go_num, by omega, by omega, H1, HL3, HF2⟩
    · have c0 := HL2.out.cell (o := 4) rfl
      have glt := HL2.out.lt
      have hcon := one_begin (T' := tnl 5) HO.out (by decide +kernel) 0 5 0 (by unfold I64; omega) (by decide +kernel) (by decide +kernel) rfl
      go_wp2_with fail
      refine (show Calls Try.prog _ _ _ _ from hcon).mono ?_
      rintro e w1' ⟨F', rfl, h1, ht, hF'⟩
      have H1 := Lib.hid h1
      have HL3 := Lib.hid (HL2.out.stay (ht.stay (G := fun k => k = g) (fun k hk hx => HFH.out (by rw [← hk]; exact hx))) rfl)
      have HF2 : Hid (¬ F' g) := Lib.hid (fun hx => (hF' g hx).elim HFH.out (fun h => by omega))
      clear h1 ht hF' hcon c0 glt
      go_wp2_with fail
      go_roundg (5 - 5)
      case measure => omega
      case rel => exact ⟨5, F', by go_num, by omega, by omega, H1, HL3, HF2⟩
    · skip
      change Hid (One w wr t tm0 F) at HO
      clear HL2 HFH
      have hcon := one_top HO.out 4 1 (by unfold I64; omega) (by decide +kernel)
      go_wp2_with fail
      refine (show Calls Try.prog _ _ _ _ from hcon).mono ?_
      rintro e w20 ⟨rfl, hb20⟩
      have H20 := Lib.hid (HO.out.below hb20)
      clear hcon hb20 HO
      have hcon := one_top H20.out 5 5 (by unfold I64; omega) (by decide +kernel)
      go_wp2_with fail
      refine (show Calls Try.prog _ _ _ _ from hcon).mono ?_
      rintro e w21 ⟨rfl, hb21⟩
      have H21 := Lib.hid (H20.out.below hb21)
      clear hcon hb21 H20
      have hcon := one_abort (T' := tm1) H21.out (by decide +kernel) 3 0 (by unfold I64; omega) (by decide +kernel) rfl
      go_wp2_with fail
      refine (show Calls Try.prog _ _ _ _ from hcon).mono ?_
      rintro e w22 ⟨F22, rfl, h22, -, -⟩
      have H22 := Lib.hid h22
      clear hcon h22 H21
      have hcon := one_commit (T' := tm2) H22.out (by decide +kernel) (by decide +kernel) 5 0 (by unfold I64; omega) (by decide +kernel) rfl
      go_wp2_with fail
      refine (show Calls Try.prog _ _ _ _ from hcon).mono ?_
      rintro e w23 ⟨F23, rfl, h23, -, -⟩
      have H23 := Lib.hid h23
      clear hcon h23 H22
      have hcon := one_number H23.out (by decide +kernel) 5 1 (by unfold I64; omega) (by decide +kernel)
      go_wp2_with fail
      refine (show Calls Try.prog _ _ _ _ from hcon).mono ?_
      rintro e w24 ⟨rfl, hb24⟩
      have H24 := Lib.hid (H23.out.below hb24)
      clear hcon hb24 H23
      have hcon := one_number H24.out (by decide +kernel) 4 0 (by unfold I64; omega) (by decide +kernel)
      go_wp2_with fail
      refine (show Calls Try.prog _ _ _ _ from hcon).mono ?_
      rintro e w25 ⟨rfl, hb25⟩
      have H25 := Lib.hid (H24.out.below hb25)
      clear hcon hb25 H24
      have hcon := one_state H25.out 4 1 (by unfold I64; omega) (by decide +kernel)
      go_wp2_with fail
      refine (show Calls Try.prog _ _ _ _ from hcon).mono ?_
      rintro e w26 ⟨rfl, hb26⟩
      have H26 := Lib.hid (H25.out.below hb26)
      clear hcon hb26 H25
      have hcon := one_commit (T' := tm3) H26.out (by decide +kernel) (by decide +kernel) 1 0 (by unfold I64; omega) (by decide +kernel) rfl
      go_wp2_with fail
      refine (show Calls Try.prog _ _ _ _ from hcon).mono ?_
      rintro e w27 ⟨F27, rfl, h27, -, -⟩
      have H27 := Lib.hid h27
      clear hcon h27 H26
      have hcon := one_state H27.out 4 2 (by unfold I64; omega) (by decide +kernel)
      go_wp2_with fail
      refine (show Calls Try.prog _ _ _ _ from hcon).mono ?_
      rintro e w28 ⟨rfl, hb28⟩
      have H28 := Lib.hid (H27.out.below hb28)
      clear hcon hb28 H27
      have hcon := one_state H28.out 3 3 (by unfold I64; omega) (by decide +kernel)
      go_wp2_with fail
      refine (show Calls Try.prog _ _ _ _ from hcon).mono ?_
      rintro e w29 ⟨rfl, hb29⟩
      have H29 := Lib.hid (H28.out.below hb29)
      clear hcon hb29 H28
      have hcon := one_number H29.out (by decide +kernel) 4 2 (by unfold I64; omega) (by decide +kernel)
      go_wp2_with fail
      refine (show Calls Try.prog _ _ _ _ from hcon).mono ?_
      rintro e w30 ⟨rfl, hb30⟩
      have H30 := Lib.hid (H29.out.below hb30)
      clear hcon hb30 H29
      have hcon := one_number H30.out (by decide +kernel) 3 0 (by unfold I64; omega) (by decide +kernel)
      go_wp2_with fail
      refine (show Calls Try.prog _ _ _ _ from hcon).mono ?_
      rintro e w31 ⟨rfl, hb31⟩
      have H31 := Lib.hid (H30.out.below hb31)
      clear hcon hb31 H30
      have hcon := one_abort (T' := tm3) H31.out (by decide +kernel) 4 7 (by unfold I64; omega) (by decide +kernel) (if_neg (by decide +kernel))
      go_wp2_with fail
      refine (show Calls Try.prog _ _ _ _ from hcon).mono ?_
      rintro e w32 ⟨F32, rfl, h32, -, -⟩
      have H32 := Lib.hid h32
      clear hcon h32 H31
      have hcon := one_abort (T' := tm3) H32.out (by decide +kernel) 1 7 (by unfold I64; omega) (by decide +kernel) (if_neg (by decide +kernel))
      go_wp2_with fail
      refine (show Calls Try.prog _ _ _ _ from hcon).mono ?_
      rintro e w33 ⟨F33, rfl, h33, -, -⟩
      have H33 := Lib.hid h33
      clear hcon h33 H32
      have hcon := one_begin (T' := tm3) H33.out (by decide +kernel) 4 0 7 (by unfold I64; omega) (by decide +kernel) (by decide +kernel) (if_neg (by decide +kernel))
      go_wp2_with fail
      refine (show Calls Try.prog _ _ _ _ from hcon).mono ?_
      rintro e w34 ⟨F34, rfl, h34, -, -⟩
      have H34 := Lib.hid h34
      clear hcon h34 H33
      have hcon := one_last H34.out 2 (by decide +kernel)
      go_wp2_with fail
      refine (show Calls Try.prog _ _ _ _ from hcon).mono ?_
      rintro e w35 ⟨rfl, hb35⟩
      have H35 := Lib.hid (H34.out.below hb35)
      clear hcon hb35 H34
      have hcon := one_counts H35.out 4 true (by unfold I64; omega) (by decide +kernel)
      go_wp2_with fail
      refine (show Calls Try.prog _ _ _ _ from hcon).mono ?_
      rintro e w36 ⟨rfl, hb36⟩
      have H36 := Lib.hid (H35.out.below hb36)
      clear hcon hb36 H35
      have hcon := one_counts H36.out 3 false (by unfold I64; omega) (by decide +kernel)
      go_wp2_with fail
      refine (show Calls Try.prog _ _ _ _ from hcon).mono ?_
      rintro e w37 ⟨rfl, hb37⟩
      have H37 := Lib.hid (H36.out.below hb37)
      clear hcon hb37 H36
      go_wp2_with fail
      go_ret
      exact ⟨rfl, H37.out.bel⟩

end Go.Proofs.Ytebkcejamleojaa
