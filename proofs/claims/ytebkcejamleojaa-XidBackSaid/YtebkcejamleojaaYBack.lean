/-
  The law XidBack, walked.
-/
import Derived.Test.YtebkcejamleojaaYStayM
import Derived.Test.YtebkcejamleojaaYSeen2
import Derived.Test.YtebkcejamleojaaRegP
namespace Go.Proofs.Ytebkcejamleojaa
open Go.RowKit
set_option linter.unusedVariables false

theorem get_stpK {l : List Stp} {i : Nat} (h : i < l.length) : ∃ s, l[i]? = some s := ⟨l[i], by simp [h]⟩
theorem run_takeK {T : Tb} {l : List Stp} {i : Nat} {s : Stp} (h : l[i]? = some s) : T.run (l.take (i + 1)) = (T.run (l.take i)).stp s.kind s.id := by
  rw [List.take_add_one, h]
  exact Tb.run_snoc _ _ _
theorem run_smallK {l : List Stp} {n i : Nat} (hn : l.length = n) (h : n ≤ 80) : (Tb.new.run (l.take i)).n ≤ 80 ∧ (Tb.new.run (l.take i)).last ≤ 80 := by
  have := Tb.Small.run Tb.new_small (l.take i)
  have hl : (l.take i).length ≤ 80 := by rw [List.length_take]; omega
  exact ⟨by have := this.1; omega, by have := this.2; omega⟩

/-- The two records that are compared, in whatever world comes later. -/
theorem two_atK {W W6 : World} {aw an : Option Addr} {cw cn n m k : Nat} {G G' : Nat → Prop} {T U : Tb} {x y : Int} {na nb tp tq : Int} {ca cb : Bool} (hw : Seen G W6 (.slice aw n cw) n T) (hn : Seen G' W6 (.slice an m cn) m U) (hb : Below W6.heap.size W6 W) (h1 : k < n) (h2 : k < m)
    (e1 : T.g T.st ((k : Int) + 1) = x) (e2 : U.g U.st ((k : Int) + 1) = y) (e3 : T.numI ((k : Int) + 1) = na) (e4 : U.numI ((k : Int) + 1) = nb) (e5 : T.g T.top ((k : Int) + 1) = tp) (e6 : U.g U.top ((k : Int) + 1) = tq) (e7 : T.cnt ((k : Int) + 1) = ca) (e8 : U.cnt ((k : Int) + 1) = cb) :
    ∃ bw bn : Nat, aw = some ⟨bw, 0, none⟩ ∧ an = some ⟨bn, 0, none⟩ ∧ ∀ W', Below W.heap.size W W' → (bw < W'.heap.size ∧ W'.cell? ⟨bw, k * 4, none⟩ = some (.int .u8 x) ∧ W'.cell? ⟨bw, k * 4 + 1, none⟩ = some (.int .i64 tp) ∧ W'.cell? ⟨bw, k * 4 + 2, none⟩ = some (.int .i64 na) ∧ W'.cell? ⟨bw, k * 4 + 3, none⟩ = some (.bool ca)) ∧
      (bn < W'.heap.size ∧ W'.cell? ⟨bn, k * 4, none⟩ = some (.int .u8 y) ∧ W'.cell? ⟨bn, k * 4 + 1, none⟩ = some (.int .i64 tq) ∧ W'.cell? ⟨bn, k * 4 + 2, none⟩ = some (.int .i64 nb) ∧ W'.cell? ⟨bn, k * 4 + 3, none⟩ = some (.bool cb)) := by
  obtain ⟨bw, rfl, _, _, _⟩ := Seen.at hw h1
  obtain ⟨bn, rfl, _, _, _⟩ := Seen.at hn h2
  refine ⟨bw, bn, rfl, rfl, fun W' hb' => ?_⟩
  obtain ⟨b', e, _, p1, p2, p3, p4, p5⟩ := Seen.at (hw.below (below_tr hb hb')) h1
  cases e
  obtain ⟨b', e, _, q1, q2, q3, q4, q5⟩ := Seen.at (hn.below (below_tr hb hb')) h2
  cases e
  rw [e1] at p2; rw [e5] at p3; rw [e3] at p4; rw [e7] at p5
  rw [e2] at q2; rw [e6] at q3; rw [e4] at q4; rw [e8] at q5
  exact ⟨⟨p1, p2, p3, p4, p5⟩, q1, q2, q3, q4, q5⟩

/-- A parent, in whatever world comes later. -/
theorem par_at {w W : World} {t : Nat} {T P : Tb} {F : Nat → Prop} {b c m q : Nat} (h : Two w W t T F P b c) (hm : P.n + 1 = m) (h1 : 1 ≤ q) (h2 : q ≤ P.n) : ∀ W', Below W.heap.size W W' → b < W'.heap.size ∧ W'.cell? ⟨b, q, none⟩ = some (.int .i64 (P.par q)) := by
  intro W' hb
  subst hm
  obtain ⟨b', c', e, _, _, hbl, hat, _⟩ := (h.below hb).row.at (j := q) (by omega)
  cases e
  have := hat q (by omega) 0 (.int .i64 (P.par q)) (by unfold parR; rw [if_neg (by omega)]; rfl)
  rw [Nat.mul_one, Nat.add_zero] at this
  exact ⟨hbl, this⟩

set_option maxRecDepth 100000 in
set_option maxHeartbeats 8000000 in
theorem back_large (a0 : Option Addr) (c0 n0 : Nat) (l0 : List Stp) (hn0 : l0.length = n0) (id : Int) (hid : I64 id) (com : Bool) (w : World) (hs0 : SlSt w a0 c0 l0) (hz : 80 < n0) :
    Calls Try.prog 8 #[.slice a0 n0 c0, .int .i64 id, .bool com] w fun e w' => e = .returned (.bool true) ∧ Below w.heap.size w w' := by
  have hz2 : (80 : Int) < n0 := by omega
  go_enter Try.func8, Try.ntmps8
  have hcon := works_is w
  go_wp2_with fail
  refine (show Calls Try.prog _ _ _ _ from hcon).mono ?_
  rintro e w1 ⟨rfl, hb⟩
  have HB1 := Lib.hid hb
  clear hcon hb
  have hcon := works_is w1
  go_wp2_with fail
  refine (show Calls Try.prog _ _ _ _ from hcon).mono ?_
  rintro e w2 ⟨rfl, hb⟩
  have HB2 := Lib.hid (below_tr HB1.out hb)
  clear hcon hb HB1
  go_wp2_with fail
  go_ret
  exact ⟨rfl, HB2.out⟩

theorem back28 : RX.planOk (RX.funcOps Try.f8 28) = true := by kernel_rfl

set_option maxRecDepth 100000 in
set_option maxHeartbeats 8000000 in
theorem back_com (a0 : Option Addr) (c0 n0 : Nat) (l0 : List Stp) (hn0 : l0.length = n0) (id : Int) (hid : I64 id) (w : World) (hs0 : SlSt w a0 c0 l0) (hz : n0 ≤ 80) :
    Calls Try.prog 8 #[.slice a0 n0 c0, .int .i64 id, .bool true] w fun e w' => e = .returned (.bool true) ∧ Below w.heap.size w w' := by
  have mixed : Try.prog.follows Departure.mixedOrders = true := by kernel_rfl
  have hz2 : ¬ (80 : Int) < n0 := by omega
  have HZ := Lib.hid hz
  have HS := Lib.hid hs0
  have HN := Lib.hid hn0
  clear hs0 hn0
  go_enter Try.func8, Try.ntmps8
  have hcon := works_is w
  go_wp2_with fail
  refine (show Calls Try.prog _ _ _ _ from hcon).mono ?_
  rintro e w1 ⟨rfl, hb⟩
  have HB1 := Lib.hid hb
  clear hcon hb
  have hcon := one_new (w0 := w) HB1.out
  go_wp2_with fail
  refine (show Calls Try.prog _ _ _ _ from hcon).mono ?_
  rintro e w2 ⟨t, F0, rfl, h2, -, -⟩
  have HT := Lib.hid (Two.start h2)
  obtain ⟨b0, hb0⟩ : ∃ b, w2.heap.size = b := ⟨_, rfl⟩
  rw [hb0] at HT
  have HB0 := Lib.hid hb0
  clear hcon h2 HB1 hb0
  go_wp2_with fail
  simp only [HB0.out]
  go_loopg [8, 9] n0 (fun gg s8 s9 wr => ∃ (i b c : Nat) (F : Nat → Prop) (m : Nat), s8 = .slice (some ⟨b, 0, none⟩) m c ∧ s9 = .int .i64 i ∧ i ≤ n0 ∧ n0 - i ≤ gg ∧ Hid ((Tb.new.run (l0.take i)).n + 1 = m) ∧ Hid (Two w wr t (Tb.new.run (l0.take i)) F (Tb.new.run (l0.take i)) b c))
  case atStart => exact ⟨0, b0, 1, F0, 1, rfl, rfl, Nat.zero_le _, by omega, Lib.hid rfl, HT⟩
  case round =>
    obtain ⟨i, b, c, F, m, rfl, rfl, hin, hgg, HM, HTW⟩ := hrel
    clear HT HB0
    obtain ⟨T, hT⟩ : ∃ T, Tb.new.run (l0.take i) = T := ⟨_, rfl⟩
    have hsm := run_smallK (i := i) HN.out HZ.out
    have hok := Tb.new_ok.run (l0.take i)
    have hnum := Tb.new_nums.runs Tb.new_ok (l0.take i)
    rw [hT] at HM HTW hsm hok hnum
    by_cases hlt : i < n0
    · have hltz : (i : Int) < (n0 : Int) := by omega
      obtain ⟨st, hst⟩ := get_stpK (l := l0) (i := i) (by rw [HN.out]; exact hlt)
      obtain ⟨sb, so, rfl, d0, d1, d2⟩ := at_st (HS.out.below HTW.out.one.bel) hst
      have hwf := HS.out.wf st (List.mem_of_getElem? hst)
      have hlc : n0 ≤ c0 := by have := HS.out.lc; rw [HN.out] at this; exact this
      have hrun := run_takeK (T := Tb.new) hst
      rw [hT] at hrun
      obtain ⟨va, hva⟩ : ∃ va, T.stpI st.kind st.id = va := ⟨_, rfl⟩
      obtain ⟨ve, hve⟩ : ∃ ve, T.stpE st.kind st.id = ve := ⟨_, rfl⟩
      have hdo := fun (W : World) (hb : Below wr.heap.size wr W) => one_do (HTW.out.below hb).one (by omega) (by omega) st.kind st.id va ve hwf.1 hwf.2 hva hve rfl
      have hpar := stp_par T st.kind st.id
      rw [hve] at hpar
      have HPAR := Lib.hid hpar
      have HRUN := Lib.hid hrun
      have HGS := Lib.hid hst
      have HSM0 := Lib.hid hsm.1
      have hcon := hdo wr (Below.refl _ _)
      clear hwf hrun hva hve hdo hpar hst hok hnum hsm hT
      go_wp2_with fail
      refine (show Calls Try.prog _ _ _ _ from hcon).mono ?_
      intro e w3 hnx
      obtain ⟨F', rfl, htw3⟩ := HTW.out.step hnx
      have HTW3 := Lib.hid htw3
      have hst3 : sb < w3.heap.size ∧ w3.cell? ⟨sb, so + i * 2, none⟩ = some (.int .u8 st.kind) ∧ w3.cell? ⟨sb, so + i * 2 + 1, none⟩ = some (.int .i64 st.id) := by
        obtain ⟨b', o', e', d0, d1, d2⟩ := at_st (HS.out.below htw3.one.bel) (l := l0) (i := i) (s := st) HGS.out
        cases e'
        exact ⟨d0, d1, d2⟩
      obtain ⟨e0, e1, e2⟩ := hst3
      clear d0 d1 d2 hnx htw3 hcon HTW
      obtain ⟨U, hU⟩ : ∃ U, T.stp st.kind st.id = U := ⟨_, rfl⟩
      rw [hU] at HPAR HRUN HTW3
      by_cases hk0 : st.kind = 0
      · by_cases hv0 : ve = 0
        · obtain ⟨_, _, hn1, hid9, hp1, hp2⟩ := HPAR.out.resolve_right (fun h => h.1 ⟨hk0, hv0⟩)
          obtain ⟨b9, c9, w4, hrun4, htw4, _⟩ := HTW3.out.push (by have := HSM0.out; omega) hn1 hp1 (id := st.id) (by rw [hp2]; exact hid9)
          obtain ⟨m9, hm9⟩ : ∃ m9, U.n + 1 = m9 := ⟨_, rfl⟩
          rw [HM.out, hm9] at hrun4
          have HRUN4 := Lib.hid (hrun4 33)
          have HU := Lib.hid htw4
          have HM9 := Lib.hid hm9
          clear hn1 hid9 hp1 hp2 hrun4 htw4 hm9 HPAR HTW3 HM
          go_wp2_with (at_builtin; refine append_stepW rfl _ _ 33 rfl _ _ _ _ rfl rfl HRUN4.out ?_)
          clear HRUN4 e0 e1 e2
          go_roundg (n0 - (i + 1))
          case measure => omega
          case rel =>
            have hr := HRUN.out
            exact ⟨i + 1, b9, c9, F', m9, rfl, by exact congrArg (Value.int .i64) (by omega), by omega, by omega, Lib.hid (by rw [hr]; exact HM9.out), Lib.hid (by rw [hr]; exact HU.out)⟩
        · have hno : ¬ (st.kind = 0 ∧ ve = 0) := fun h => hv0 h.2
          have hv1 : (ve == 0) = false := by simpa using hv0
          clear hv0
          obtain ⟨hnn, hnp⟩ : U.n = T.n ∧ U.par = T.par := by
            rcases HPAR.out with h | h
            · exact absurd ⟨h.1, h.2.1⟩ hno
            · exact h.2
          have HU := Lib.hid (HTW3.out.same hnn hnp)
          have HM9 : Hid (U.n + 1 = m) := Lib.hid (by rw [hnn]; exact HM.out)
          clear hnn hnp hno HPAR HTW3 HM
          go_wp2_with fail
          clear e0 e1 e2
          go_roundg (n0 - (i + 1))
          case measure => omega
          case rel =>
            have hr := HRUN.out
            exact ⟨i + 1, b, c, F', m, rfl, by exact congrArg (Value.int .i64) (by omega), by omega, by omega, Lib.hid (by rw [hr]; exact HM9.out), Lib.hid (by rw [hr]; exact HU.out)⟩
      · have hno : ¬ (st.kind = 0 ∧ ve = 0) := fun h => hk0 h.1
        obtain ⟨hnn, hnp⟩ : U.n = T.n ∧ U.par = T.par := by
          rcases HPAR.out with h | h
          · exact absurd ⟨h.1, h.2.1⟩ hno
          · exact h.2
        have HU := Lib.hid (HTW3.out.same hnn hnp)
        have HM9 : Hid (U.n + 1 = m) := Lib.hid (by rw [hnn]; exact HM.out)
        clear hnn hnp hno HPAR HTW3 HM
        go_wp2_with fail
        clear e0 e1 e2
        go_roundg (n0 - (i + 1))
        case measure => omega
        case rel =>
          have hr := HRUN.out
          exact ⟨i + 1, b, c, F', m, rfl, by exact congrArg (Value.int .i64) (by omega), by omega, by omega, Lib.hid (by rw [hr]; exact HM9.out), Lib.hid (by rw [hr]; exact HU.out)⟩
    · have hltz : ¬ (i : Int) < (n0 : Int) := by omega
      have HTWA := Lib.hid HTW.out
      obtain ⟨b, hpb⟩ : ∃ pb, b = pb := ⟨_, rfl⟩
      obtain ⟨pc, hpc⟩ : ∃ pc, c = pc := ⟨_, rfl⟩
      obtain ⟨pm, hpm⟩ : ∃ pm, m = pm := ⟨_, rfl⟩
      subst hpb hpc hpm
      have HOK := Lib.hid hok
      have HNUM := Lib.hid hnum
      have HSMT := Lib.hid hsm
      obtain ⟨n, hn9⟩ : ∃ n, T.n = n := ⟨_, rfl⟩
      have HN9 := Lib.hid hn9
      have HSM : Hid (n ≤ 80) := Lib.hid (by rw [← hn9]; exact hsm.1)
      obtain ⟨ve, hve⟩ : ∃ ve, T.err id = ve := ⟨_, rfl⟩
      obtain ⟨U, hU⟩ : ∃ U, T.comT id = U := ⟨_, rfl⟩
      have HVE := Lib.hid hve
      have HUE := Lib.hid hU
      have HUN : Hid (U.n = n ∧ U.par = T.par) := Lib.hid (by
        rw [← hU]
        unfold Tb.comT
        split
        · exact ⟨by rw [Tb.com_n]; exact hn9, T.com_par _⟩
        · exact ⟨hn9, rfl⟩)
      have HID := Lib.hid hid
      clear hok hnum hsm hT HTW hn9 hve hU hlt
      have hcon := all_n HTWA.out.one.is HN9.out (by have := HSM.out; omega)
      go_wp2_with fail
      refine (show Calls Try.prog _ _ _ _ from hcon).mono ?_
      rintro e w3 ⟨aw, cw, rfl, hsw, hb⟩
      have HT3 := Lib.hid (HTWA.out.below hb)
      have HW3 := Lib.hid hsw
      clear hcon hsw hb
      have hcon := one_commit HT3.out.one (by have := HSMT.out; omega) (by have := HSMT.out; omega) id ve HID.out HVE.out HUE.out
      go_wp2_with fail
      refine (show Calls Try.prog _ _ _ _ from hcon).mono ?_
      intro e w5 hnx
      have HW5 : Hid (Seen (fun k => wr.heap.size ≤ k) w5 (.slice aw n cw) n T) := Lib.hid (by
        obtain ⟨_, _, _, t5, _⟩ := hnx
        exact HW3.out.stay (t5.stay (G := fun k => wr.heap.size ≤ k) (fun k hk hf => by have := HTWA.out.one.is.lt k hf; omega)))
      obtain ⟨F2, rfl, h5⟩ := HT3.out.step hnx
      have HT5 := Lib.hid h5
      clear hnx h5 hcon HW3 HT3 HTWA
      have hcon := all_n HT5.out.one.is HUN.out.1 (by have := HSM.out; omega)
      go_wp2_with fail
      refine (show Calls Try.prog _ _ _ _ from hcon).mono ?_
      rintro e w6 ⟨an, cn, rfl, hsn, hb⟩
      have HT6 := Lib.hid (HT5.out.below hb)
      have HWAS := Lib.hid (HW5.out.below hb)
      have HNOW := Lib.hid hsn
      clear hcon hsn hb HT5 HW5
      by_cases hv0 : ve = 0
      · subst hv0
        obtain ⟨hi1, hi2, hi3⟩ := Tb.err_ok HVE.out
        obtain ⟨q, hq⟩ : ∃ q : Nat, id = (q : Int) := ⟨id.toNat, by omega⟩
        subst hq
        have HQ : Hid (1 ≤ q ∧ q ≤ n) := Lib.hid (by have := HN9.out; omega)
        obtain ⟨pq, hpq⟩ : ∃ pq, T.par q = pq := ⟨_, rfl⟩
        obtain ⟨la, hla⟩ : ∃ la : Int, (U.last : Int) = la := ⟨_, rfl⟩
        have HPQ := Lib.hid hpq
        have HLA := Lib.hid hla
        have HPM := Lib.hid HM.out
        have HPA : Hid (∀ W', Below w6.heap.size w6 W' → m = n + 1 → b < W'.heap.size ∧ W'.cell? ⟨b, q, none⟩ = some (.int .i64 (pq : Int))) := Lib.hid (fun W' hb hm => by
          have := par_at HT6.out HPM.out HQ.out.1 (by have := HQ.out; have := HN9.out; omega) W' hb
          rwa [HPQ.out] at this)
        have HB6 := Lib.hid (Below.refl w6.heap.size w6)
        have HOU := Lib.hid HT6.out.one
        have HMN1 : Hid (m = n + 1) := Lib.hid (by have := HM.out; have := HN9.out; omega)
        clear hi1 hi2 hi3 hpq hla HID
        go_wp2_with fail
        go_loopg [15] n (fun gg s15 wr => ∃ (j : Nat), s15 = .int .i64 ((j : Int) + 1) ∧ j ≤ n ∧ n - j ≤ gg ∧ Hid (Below w6.heap.size w6 wr))
        case atStart => exact ⟨0, by simp, Nat.zero_le _, by omega, HB6⟩
        case round =>
          obtain ⟨j, rfl, hjn, hgg2, HB2⟩ := hrel
          clear HB6
          by_cases hlt2 : j < n
          · have hltz2 : (j : Int) + 1 ≤ (n : Int) := by omega
            have HJ := Lib.hid hlt2
            have HJG := Lib.hid (And.intro hjn hgg2)
            clear hlt2 hjn hgg2
            go_wp2_with fail
            go_loopg [16, 17] n (fun gg2 s16 s17 wr2 => ∃ (u : Bool) (nn : Nat), s16 = .bool u ∧ s17 = .int .i64 nn ∧ nn ≤ n ∧ nn ≤ gg2 ∧ Hid ((u = true ∨ (nn ≠ 0 ∧ Und T.par q nn)) ↔ Und T.par q (j + 1)) ∧ Hid (Below w6.heap.size w6 wr2))
            case atStart => exact ⟨false, j + 1, rfl, by exact congrArg (Value.int .i64) (by omega), by have := HJ.out; omega, by have := HJ.out; omega, Lib.hid ⟨fun h => h.elim (fun h => by cases h) (fun h => h.2), fun h => .inr ⟨by omega, h⟩⟩, HB2⟩
            case round =>
              obtain ⟨u, nn, rfl, rfl, hnn, hng, HUD, HB3⟩ := hrel
              clear HB2
              by_cases hz0 : nn = 0
              · subst hz0
                have HUU : Hid (u = true ↔ Und T.par q (j + 1)) := Lib.hid ⟨fun h => HUD.out.1 (.inl h), fun h => (HUD.out.2 h).elim (fun h => h) (fun h => absurd rfl h.1)⟩
                have HB2 := HB3
                clear HB3 HUD
                have hj0 : (0 : Int) ≤ j := by omega
                have hjn0 : (j : Int) < (n : Int) := by have := HJ.out; omega
                have HJW2 : Hid (IntKind.i64.wrap (j : Int) = j) := Lib.hid (by rw [IntKind.wrap_i64]; have := HSM.out; omega)
                obtain ⟨x, hx⟩ : ∃ x, T.g T.st ((j : Int) + 1) = x := ⟨_, rfl⟩
                obtain ⟨y, hy⟩ : ∃ y, U.g U.st ((j : Int) + 1) = y := ⟨_, rfl⟩
                obtain ⟨tp, htp⟩ : ∃ x, T.g T.top ((j : Int) + 1) = x := ⟨_, rfl⟩
                obtain ⟨tq, htq⟩ : ∃ y, U.g U.top ((j : Int) + 1) = y := ⟨_, rfl⟩
                obtain ⟨na, hna⟩ : ∃ x, T.numI ((j : Int) + 1) = x := ⟨_, rfl⟩
                obtain ⟨nb, hnb⟩ : ∃ y, U.numI ((j : Int) + 1) = y := ⟨_, rfl⟩
                obtain ⟨ca, hca⟩ : ∃ x, T.cnt ((j : Int) + 1) = x := ⟨_, rfl⟩
                obtain ⟨cb, hcb⟩ : ∃ y, U.cnt ((j : Int) + 1) = y := ⟨_, rfl⟩
                have hfa := back_facts HOK.out HNUM.out true (q : Int) HVE.out (U := U) (by simpa using HUE.out) (k := j + 1) (by omega) (by have := HJ.out; have := HN9.out; omega)
                rw [show ((j + 1 : Nat) : Int) = (j : Int) + 1 by omega, Int.toNat_natCast, HPQ.out, hx, hy, htp, htq, hna, hnb, hca, hcb, HLA.out] at hfa
                obtain ⟨bw, bn, ebw, ebn, hrd⟩ := two_atK HWAS.out HNOW.out HB2.out HJ.out HJ.out hx hy hna hnb htp htq hca hcb
                subst ebw
                subst ebn
                have HRD := Lib.hid hrd
                have HFA := Lib.hid hfa
                clear hrd hx hy htp htq hna hnb hca hcb hfa
                go_upto_region 27 with (fail)
                refine RX.region_held 14 (fun W => Below wr.heap.size wr W) mixed (by rfl) ?_
                refine wpAnyH_take (i := 0) (oi := _) (v := .slice (some ⟨bw, 0, none⟩) n cw) rfl (by kernel_rfl) (by kernel_rfl) (by kernel_rfl) (fun _ _ _ h => h) (Or.inl ⟨by rfl, fun w' hw' => ?_⟩) (below_drw _) ?_
                · go_simp
                  try first | with_reducible rfl | simp
                refine wpAnyH_take (i := 1) (oi := _) (v := .int .i64 ((j : Int) + 1)) rfl (by kernel_rfl) (by kernel_rfl) (by kernel_rfl) (fun _ _ _ h => h) (Or.inl ⟨by rfl, fun w' hw' => ?_⟩) (below_drw _) ?_
                · go_simp
                  try first | with_reducible rfl | simp
                refine wpAnyH_take (i := 2) (oi := _) (v := .int .i64 (j : Int)) rfl (by kernel_rfl) (by kernel_rfl) (by kernel_rfl) (fun _ _ _ h => h) (Or.inl ⟨by rfl, fun w' hw' => ?_⟩) (below_drw _) ?_
                · have hjw2 : IntKind.i64.wrap (j : Int) = j := HJW2.out
                  go_simp
                  try first | with_reducible rfl | simp
                refine wpAnyH_take (i := 3) (oi := _) (v := .pointer (some ⟨bw, j * 4, none⟩)) rfl (by kernel_rfl) (by kernel_rfl) (by kernel_rfl) (fun _ _ _ h => h) (Or.inl ⟨by rfl, fun w' hw' => ?_⟩) (below_drw _) ?_
                · go_simp
                  try first | with_reducible rfl | simp
                refine wpAnyH_take (i := 4) (oi := _) (v := seenV x tp na ca) rfl (by kernel_rfl) (by kernel_rfl) (by kernel_rfl) (fun _ _ _ h => h) (Or.inl ⟨by rfl, fun w' hw' => ?_⟩) (below_drw _) ?_
                · obtain ⟨⟨e0, e1, e2, e3, e4⟩, f0, f1, f2, f3, f4⟩ := HRD.out w' hw'
                  unfold seenV
                  go_simp
                  try first | with_reducible rfl | simp
                refine wpAnyH_take (i := 5) (oi := _) (v := .slice (some ⟨bn, 0, none⟩) n cn) rfl (by kernel_rfl) (by kernel_rfl) (by kernel_rfl) (fun _ _ _ h => h) (Or.inl ⟨by rfl, fun w' hw' => ?_⟩) (below_drw _) ?_
                · go_simp
                  try first | with_reducible rfl | simp
                refine wpAnyH_take (i := 6) (oi := _) (v := .int .i64 ((j : Int) + 1)) rfl (by kernel_rfl) (by kernel_rfl) (by kernel_rfl) (fun _ _ _ h => h) (Or.inl ⟨by rfl, fun w' hw' => ?_⟩) (below_drw _) ?_
                · go_simp
                  try first | with_reducible rfl | simp
                refine wpAnyH_take (i := 7) (oi := _) (v := .int .i64 (j : Int)) rfl (by kernel_rfl) (by kernel_rfl) (by kernel_rfl) (fun _ _ _ h => h) (Or.inl ⟨by rfl, fun w' hw' => ?_⟩) (below_drw _) ?_
                · have hjw2 : IntKind.i64.wrap (j : Int) = j := HJW2.out
                  go_simp
                  try first | with_reducible rfl | simp
                refine wpAnyH_take (i := 8) (oi := _) (v := .pointer (some ⟨bn, j * 4, none⟩)) rfl (by kernel_rfl) (by kernel_rfl) (by kernel_rfl) (fun _ _ _ h => h) (Or.inl ⟨by rfl, fun w' hw' => ?_⟩) (below_drw _) ?_
                · go_simp
                  try first | with_reducible rfl | simp
                refine wpAnyH_take (i := 9) (oi := _) (v := seenV y tq nb cb) rfl (by kernel_rfl) (by kernel_rfl) (by kernel_rfl) (fun _ _ _ h => h) (Or.inl ⟨by rfl, fun w' hw' => ?_⟩) (below_drw _) ?_
                · obtain ⟨⟨e0, e1, e2, e3, e4⟩, f0, f1, f2, f3, f4⟩ := HRD.out w' hw'
                  unfold seenV
                  go_simp
                  try first | with_reducible rfl | simp
                refine RX.anyH_two (fuel := 0) (i1 := 10) (i2 := 11) (j1 := 12) (j2 := 13) (t1 := 18) (t2 := 19) (e := 47) (zs := seenZ) (c1 := seenC x tp na ca) (c2 := seenC y tq nb cb) (by rfl) (by rfl) (by rfl) (by rfl) (by rfl) (by rfl) (by rfl) (by rfl) (by rfl) (by rfl) (by rfl) (by rfl) (by decide) (by decide) (by kernel_rfl) (by kernel_rfl) (by kernel_rfl) (by kernel_rfl) (by kernel_rfl) (by kernel_rfl) (alloc_seen (by rfl)) (alloc_seen (by rfl)) (fun g g' => fills_seen (p := .tmp 18) (x := .tmp 99) (by rfl) _ _ _ _ _ _ (by kernel_rfl) (by kernel_rfl)) (fun g g' => fills_seen (p := .tmp 19) (x := .tmp 104) (by rfl) _ _ _ _ _ _ (by kernel_rfl) (by kernel_rfl)) (fun w' hb => below_tr (below_drw _) hb) (fun b1 b2 v1 hne h1 h2 l1 l2 hb => ?_)
                have HV1 := Lib.hid (below_tr (below_drw _) hb)
                have HL1 := Lib.hid l1
                have HL2 := Lib.hid l2
                clear hne h1 h2 hb l1 l2
                simp only [Act.put, List.setIfInBounds_toArray]
                unfold RX.pt
                unfold seenV
                clear HRD
                have hfa := HFA.out
                clear HFA
                cases u with
                | false =>
                  have hnu : ¬ Und T.par q (j + 1) := fun h => by have := HUU.out.2 h; cases this
                  rcases hfa with ⟨_, g1, g2, g3, g4⟩ | ⟨h, _⟩ | ⟨h, _⟩
                  · subst g1
                    subst g2
                    subst g3
                    subst g4
                    clear hnu
                    have x0 := HL1.out.cell (o := 0) rfl
                    have x1 := HL1.out.cell (o := 1) rfl
                    have x2 := HL1.out.cell (o := 2) rfl
                    have x3 := HL1.out.cell (o := 3) rfl
                    have y0 := HL2.out.cell (o := 0) rfl
                    have y1 := HL2.out.cell (o := 1) rfl
                    have y2 := HL2.out.cell (o := 2) rfl
                    have y3 := HL2.out.cell (o := 3) rfl
                    have xl := HL1.out.lt
                    have yl := HL2.out.lt
                    have hne := fun W => neq_seen y tq nb cb W
                    have HB5 := Lib.hid (below_tr HB2.out HV1.out)
                    clear HV1 HL1 HL2
                    go_wp2_with fail
                    go_roundg (n - (j + 1))
                    case measure => have := HJG.out; have := HJ.out; omega
                    case rel => exact ⟨j + 1, by have hn80 := HSM.out; rw [show wrap64 ((j : Int) + 1 + 1) = (j : Int) + 1 + 1 from wr0 (by omega)]; exact congrArg (Value.int .i64) (by omega), by omega, Nat.le_refl _, HB5⟩
                  · exact absurd h hnu
                  · exact absurd h hnu
                | true =>
                  have hu1 := HUU.out.1 rfl
                  rcases hfa with ⟨h, _⟩ | ⟨_, h, _⟩ | ⟨_, _, g1, ⟨g2, g3⟩ | ⟨g2, g3⟩, g4, g5⟩
                  · exact absurd hu1 h
                  · cases h
                  · by_cases hp0 : pq = 0
                    · obtain rfl : cb = ca := g1
                      subst g2
                      subst g3
                      subst hp0
                      have g7 := g4 rfl rfl
                      subst g7
                      clear g4 g5 hu1
                      go_upto_region 28 with (fail)
                      have hdr := below_drw v1
                      try simp only [List.append_eq, List.cons_append, List.nil_append]
                      refine RX.wp_region_plan (fun w w' => Below w.heap.size w w') [.it (.pointer (some ⟨b1, 3, none⟩)), .it (.bool true), .it (.pointer (some ⟨b2, 3, none⟩)), .it (.bool true), .it (.bool false), .it (.bool false), .it (.pointer (some ⟨b2, 3, none⟩)), .it (.bool true), .it (.pointer (some ⟨b2, 0, none⟩)), .it (.int .u8 2), .it (.bool true), .it (.bool false), .it (.bool false), .it (.bool false), .it (.slice (some ⟨b, 0, none⟩) m c), .it (.int .i64 (q : Int)), .it (.pointer (some ⟨b, q, none⟩)), .it (.int .i64 0), .it (.bool true), .it (.bool true), .it (.pointer (some ⟨b2, 3, none⟩)), .it (.bool true), .it (.bool true), .it (.bool true), .it (.pointer (some ⟨b2, 2, none⟩)), .it (.int .i64 nb), .it (.pointer (some ⟨t, 0, none⟩)), .it (.int .i64 nb), .it (.bool false), .it (.bool false), .it (.bool false), .it (.bool false), .it (.slice (some ⟨b, 0, none⟩) m c), .it (.int .i64 (q : Int)), .it (.pointer (some ⟨b, q, none⟩)), .it (.int .i64 0), .it (.bool false), .it (.bool false), .it undef, .it undef, .it undef, .it (.bool false), .it (.bool false)] (by kernel_rfl) (RX.plan_same back28 (by kernel_rfl)) (fun _ => Below.refl _ _) (fun _ _ _ => below_tr) ?_
                      refine RX.seqP_value (fun _ => Below.refl _ _) _ (by first | rfl | simp) (fun w' hw' hctx => by (go_simp); (try first | with_reducible rfl | simp)) ?_
                      simp only [Act.put, List.setIfInBounds_toArray, List.set_cons_zero, List.set_cons_succ]
                      refine RX.seqP_value (fun _ => Below.refl _ _) _ (by first | rfl | simp) (fun w' hw' hctx => ?_) ?_
                      · have x3 := (HL1.out.below (below_tr hdr hw')).cell (o := 3) rfl
                        have y0 := (HL2.out.below (below_tr hdr hw')).cell (o := 0) rfl
                        have y2 := (HL2.out.below (below_tr hdr hw')).cell (o := 2) rfl
                        have y3 := (HL2.out.below (below_tr hdr hw')).cell (o := 3) rfl
                        go_simp
                        try first | with_reducible rfl | simp
                      simp only [Act.put, List.setIfInBounds_toArray, List.set_cons_zero, List.set_cons_succ]
                      refine RX.seqP_value (fun _ => Below.refl _ _) _ (by first | rfl | simp) (fun w' hw' hctx => by (go_simp); (try first | with_reducible rfl | simp)) ?_
                      simp only [Act.put, List.setIfInBounds_toArray, List.set_cons_zero, List.set_cons_succ]
                      refine RX.seqP_value (fun _ => Below.refl _ _) _ (by first | rfl | simp) (fun w' hw' hctx => ?_) ?_
                      · have x3 := (HL1.out.below (below_tr hdr hw')).cell (o := 3) rfl
                        have y0 := (HL2.out.below (below_tr hdr hw')).cell (o := 0) rfl
                        have y2 := (HL2.out.below (below_tr hdr hw')).cell (o := 2) rfl
                        have y3 := (HL2.out.below (below_tr hdr hw')).cell (o := 3) rfl
                        go_simp
                        try first | with_reducible rfl | simp
                      simp only [Act.put, List.setIfInBounds_toArray, List.set_cons_zero, List.set_cons_succ]
                      refine RX.seqP_value (fun _ => Below.refl _ _) _ (by first | rfl | simp) (fun w' hw' hctx => by (go_simp); (try first | with_reducible rfl | simp)) ?_
                      simp only [Act.put, List.setIfInBounds_toArray, List.set_cons_zero, List.set_cons_succ]
                      refine RX.seqP_value (fun _ => Below.refl _ _) _ (by first | rfl | simp) (fun w' hw' hctx => by (go_simp); (try first | with_reducible rfl | simp)) ?_
                      simp only [Act.put, List.setIfInBounds_toArray, List.set_cons_zero, List.set_cons_succ]
                      refine RX.seqP_value (fun _ => Below.refl _ _) _ (by first | rfl | simp) (fun w' hw' hctx => by (go_simp); (try first | with_reducible rfl | simp)) ?_
                      simp only [Act.put, List.setIfInBounds_toArray, List.set_cons_zero, List.set_cons_succ]
                      refine RX.seqP_value (fun _ => Below.refl _ _) _ (by first | rfl | simp) (fun w' hw' hctx => ?_) ?_
                      · have x3 := (HL1.out.below (below_tr hdr hw')).cell (o := 3) rfl
                        have y0 := (HL2.out.below (below_tr hdr hw')).cell (o := 0) rfl
                        have y2 := (HL2.out.below (below_tr hdr hw')).cell (o := 2) rfl
                        have y3 := (HL2.out.below (below_tr hdr hw')).cell (o := 3) rfl
                        go_simp
                        try first | with_reducible rfl | simp
                      simp only [Act.put, List.setIfInBounds_toArray, List.set_cons_zero, List.set_cons_succ]
                      refine RX.seqP_value (fun _ => Below.refl _ _) _ (by first | rfl | simp) (fun w' hw' hctx => by (go_simp); (try first | with_reducible rfl | simp)) ?_
                      simp only [Act.put, List.setIfInBounds_toArray, List.set_cons_zero, List.set_cons_succ]
                      refine RX.seqP_value (fun _ => Below.refl _ _) _ (by first | rfl | simp) (fun w' hw' hctx => ?_) ?_
                      · have x3 := (HL1.out.below (below_tr hdr hw')).cell (o := 3) rfl
                        have y0 := (HL2.out.below (below_tr hdr hw')).cell (o := 0) rfl
                        have y2 := (HL2.out.below (below_tr hdr hw')).cell (o := 2) rfl
                        have y3 := (HL2.out.below (below_tr hdr hw')).cell (o := 3) rfl
                        go_simp
                        try first | with_reducible rfl | simp
                      simp only [Act.put, List.setIfInBounds_toArray, List.set_cons_zero, List.set_cons_succ]
                      refine RX.seqP_value (fun _ => Below.refl _ _) _ (by first | rfl | simp) (fun w' hw' hctx => by (go_simp); (try first | with_reducible rfl | simp)) ?_
                      simp only [Act.put, List.setIfInBounds_toArray, List.set_cons_zero, List.set_cons_succ]
                      refine RX.seqP_value (fun _ => Below.refl _ _) _ (by first | rfl | simp) (fun w' hw' hctx => by (go_simp); (try first | with_reducible rfl | simp)) ?_
                      simp only [Act.put, List.setIfInBounds_toArray, List.set_cons_zero, List.set_cons_succ]
                      refine RX.seqP_value (fun _ => Below.refl _ _) _ (by first | rfl | simp) (fun w' hw' hctx => by (go_simp); (try first | with_reducible rfl | simp)) ?_
                      simp only [Act.put, List.setIfInBounds_toArray, List.set_cons_zero, List.set_cons_succ]
                      refine RX.seqP_value (fun _ => Below.refl _ _) _ (by first | rfl | simp) (fun w' hw' hctx => by (go_simp); (try first | with_reducible rfl | simp)) ?_
                      simp only [Act.put, List.setIfInBounds_toArray, List.set_cons_zero, List.set_cons_succ]
                      refine RX.seqP_value (fun _ => Below.refl _ _) _ (by first | rfl | simp) (fun w' hw' hctx => by (go_simp); (try first | with_reducible rfl | simp)) ?_
                      simp only [Act.put, List.setIfInBounds_toArray, List.set_cons_zero, List.set_cons_succ]
                      refine RX.seqP_value (fun _ => Below.refl _ _) _ (by first | rfl | simp) (fun w' hw' hctx => by (go_simp); (try first | with_reducible rfl | simp)) ?_
                      simp only [Act.put, List.setIfInBounds_toArray, List.set_cons_zero, List.set_cons_succ]
                      refine RX.seqP_value (fun _ => Below.refl _ _) _ (by first | rfl | simp) (fun w' hw' hctx => ?_) ?_
                      · have hqm : (q : Int) < (m : Int) := by have := HMN1.out; have := HQ.out; omega
                        have hq0 : (0 : Int) ≤ q := by omega
                        go_simp
                        try first | with_reducible rfl | simp
                      simp only [Act.put, List.setIfInBounds_toArray, List.set_cons_zero, List.set_cons_succ]
                      refine RX.seqP_value (fun _ => Below.refl _ _) _ (by first | rfl | simp) (fun w' hw' hctx => ?_) ?_
                      · obtain ⟨s0, s1⟩ := HPA.out w' (below_tr HB2.out (below_tr HV1.out (below_tr hdr hw'))) HMN1.out
                        go_simp
                        try first | with_reducible rfl | simp
                      simp only [Act.put, List.setIfInBounds_toArray, List.set_cons_zero, List.set_cons_succ]
                      refine RX.seqP_value (fun _ => Below.refl _ _) _ (by first | rfl | simp) (fun w' hw' hctx => ?_) ?_
                      · skip
                        go_simp
                        try first | with_reducible rfl | simp
                      simp only [Act.put, List.setIfInBounds_toArray, List.set_cons_zero, List.set_cons_succ]
                      refine RX.seqP_value (fun _ => Below.refl _ _) _ (by first | rfl | simp) (fun w' hw' hctx => by (go_simp); (try first | with_reducible rfl | simp)) ?_
                      simp only [Act.put, List.setIfInBounds_toArray, List.set_cons_zero, List.set_cons_succ]
                      refine RX.seqP_value (fun _ => Below.refl _ _) _ (by first | rfl | simp) (fun w' hw' hctx => by (go_simp); (try first | with_reducible rfl | simp)) ?_
                      simp only [Act.put, List.setIfInBounds_toArray, List.set_cons_zero, List.set_cons_succ]
                      refine RX.seqP_value (fun _ => Below.refl _ _) _ (by first | rfl | simp) (fun w' hw' hctx => ?_) ?_
                      · have x3 := (HL1.out.below (below_tr hdr hw')).cell (o := 3) rfl
                        have y0 := (HL2.out.below (below_tr hdr hw')).cell (o := 0) rfl
                        have y2 := (HL2.out.below (below_tr hdr hw')).cell (o := 2) rfl
                        have y3 := (HL2.out.below (below_tr hdr hw')).cell (o := 3) rfl
                        go_simp
                        try first | with_reducible rfl | simp
                      simp only [Act.put, List.setIfInBounds_toArray, List.set_cons_zero, List.set_cons_succ]
                      refine RX.seqP_value (fun _ => Below.refl _ _) _ (by first | rfl | simp) (fun w' hw' hctx => by (go_simp); (try first | with_reducible rfl | simp)) ?_
                      simp only [Act.put, List.setIfInBounds_toArray, List.set_cons_zero, List.set_cons_succ]
                      refine RX.seqP_value (fun _ => Below.refl _ _) _ (by first | rfl | simp) (fun w' hw' hctx => by (go_simp); (try first | with_reducible rfl | simp)) ?_
                      simp only [Act.put, List.setIfInBounds_toArray, List.set_cons_zero, List.set_cons_succ]
                      refine RX.seqP_value (fun _ => Below.refl _ _) _ (by first | rfl | simp) (fun w' hw' hctx => by (go_simp); (try first | with_reducible rfl | simp)) ?_
                      simp only [Act.put, List.setIfInBounds_toArray, List.set_cons_zero, List.set_cons_succ]
                      refine RX.seqP_value (fun _ => Below.refl _ _) _ (by first | rfl | simp) (fun w' hw' hctx => ?_) ?_
                      · have x3 := (HL1.out.below (below_tr hdr hw')).cell (o := 3) rfl
                        have y0 := (HL2.out.below (below_tr hdr hw')).cell (o := 0) rfl
                        have y2 := (HL2.out.below (below_tr hdr hw')).cell (o := 2) rfl
                        have y3 := (HL2.out.below (below_tr hdr hw')).cell (o := 3) rfl
                        go_simp
                        try first | with_reducible rfl | simp
                      simp only [Act.put, List.setIfInBounds_toArray, List.set_cons_zero, List.set_cons_succ]
                      refine RX.seqP_value (fun _ => Below.refl _ _) _ (by first | rfl | simp) (fun w' hw' hctx => by (go_simp); (try first | with_reducible rfl | simp)) ?_
                      simp only [Act.put, List.setIfInBounds_toArray, List.set_cons_zero, List.set_cons_succ]
                      refine RX.seqP_call (17) #[.pointer (some ⟨t, 0, none⟩)] (.int .i64 nb) (by first | rfl | simp) (fun w' hw' hctx => ?_) (fun w' hw' hctx => one_last ((HOU.out.below HB2.out).below (below_tr HV1.out (below_tr hdr hw'))) nb HLA.out) ?_
                      · go_simp
                      simp only [Act.put, List.setIfInBounds_toArray, List.set_cons_zero, List.set_cons_succ]
                      refine RX.seqP_value (fun _ => Below.refl _ _) _ (by first | rfl | simp) (fun w' hw' hctx => by (go_simp); (try first | with_reducible rfl | simp)) ?_
                      simp only [Act.put, List.setIfInBounds_toArray, List.set_cons_zero, List.set_cons_succ]
                      refine RX.seqP_value (fun _ => Below.refl _ _) _ (by first | rfl | simp) (fun w' hw' hctx => by (go_simp); (try first | with_reducible rfl | simp)) ?_
                      simp only [Act.put, List.setIfInBounds_toArray, List.set_cons_zero, List.set_cons_succ]
                      refine RX.seqP_value (fun _ => Below.refl _ _) _ (by first | rfl | simp) (fun w' hw' hctx => by (go_simp); (try first | with_reducible rfl | simp)) ?_
                      simp only [Act.put, List.setIfInBounds_toArray, List.set_cons_zero, List.set_cons_succ]
                      refine RX.seqP_value (fun _ => Below.refl _ _) _ (by first | rfl | simp) (fun w' hw' hctx => by (go_simp); (try first | with_reducible rfl | simp)) ?_
                      simp only [Act.put, List.setIfInBounds_toArray, List.set_cons_zero, List.set_cons_succ]
                      refine RX.seqP_value (fun _ => Below.refl _ _) _ (by first | rfl | simp) (fun w' hw' hctx => by (go_simp); (try first | with_reducible rfl | simp)) ?_
                      simp only [Act.put, List.setIfInBounds_toArray, List.set_cons_zero, List.set_cons_succ]
                      refine RX.seqP_value (fun _ => Below.refl _ _) _ (by first | rfl | simp) (fun w' hw' hctx => by (go_simp); (try first | with_reducible rfl | simp)) ?_
                      simp only [Act.put, List.setIfInBounds_toArray, List.set_cons_zero, List.set_cons_succ]
                      refine RX.seqP_value (fun _ => Below.refl _ _) _ (by first | rfl | simp) (fun w' hw' hctx => ?_) ?_
                      · have hqm : (q : Int) < (m : Int) := by have := HMN1.out; have := HQ.out; omega
                        have hq0 : (0 : Int) ≤ q := by omega
                        go_simp
                        try first | with_reducible rfl | simp
                      simp only [Act.put, List.setIfInBounds_toArray, List.set_cons_zero, List.set_cons_succ]
                      refine RX.seqP_value (fun _ => Below.refl _ _) _ (by first | rfl | simp) (fun w' hw' hctx => ?_) ?_
                      · obtain ⟨s0, s1⟩ := HPA.out w' (below_tr HB2.out (below_tr HV1.out (below_tr hdr hw'))) HMN1.out
                        go_simp
                        try first | with_reducible rfl | simp
                      simp only [Act.put, List.setIfInBounds_toArray, List.set_cons_zero, List.set_cons_succ]
                      refine RX.seqP_value (fun _ => Below.refl _ _) _ (by first | rfl | simp) (fun w' hw' hctx => ?_) ?_
                      · skip
                        go_simp
                        try first | with_reducible rfl | simp
                      simp only [Act.put, List.setIfInBounds_toArray, List.set_cons_zero, List.set_cons_succ]
                      refine RX.seqP_value (fun _ => Below.refl _ _) _ (by first | rfl | simp) (fun w' hw' hctx => by (go_simp); (try first | with_reducible rfl | simp)) ?_
                      simp only [Act.put, List.setIfInBounds_toArray, List.set_cons_zero, List.set_cons_succ]
                      refine RX.seqP_skip (by first | rfl | simp) ?_
                      simp only [Act.put, List.setIfInBounds_toArray, List.set_cons_zero, List.set_cons_succ]
                      refine RX.seqP_skip (by first | rfl | simp) ?_
                      simp only [Act.put, List.setIfInBounds_toArray, List.set_cons_zero, List.set_cons_succ]
                      refine RX.seqP_skip (by first | rfl | simp) ?_
                      simp only [Act.put, List.setIfInBounds_toArray, List.set_cons_zero, List.set_cons_succ]
                      refine RX.seqP_value (fun _ => Below.refl _ _) _ (by first | rfl | simp) (fun w' hw' hctx => by (go_simp); (try first | with_reducible rfl | simp)) ?_
                      simp only [Act.put, List.setIfInBounds_toArray, List.set_cons_zero, List.set_cons_succ]
                      refine RX.seqP_value (fun _ => Below.refl _ _) _ (by first | rfl | simp) (fun w' hw' hctx => by (go_simp); (try first | with_reducible rfl | simp)) ?_
                      simp only [Act.put, List.setIfInBounds_toArray, List.set_cons_zero, List.set_cons_succ]
                      refine RX.seqP_nil (fun v2 hR hctx _ => ?_)
                      have hb5 := below_tr hdr hR
                      clear hctx hR
                      have HB5 := Lib.hid (below_tr HB2.out (below_tr HV1.out hb5))
                      clear hb5 hdr HV1 HL1 HL2
                      go_wp2_with fail
                      go_roundg (n - (j + 1))
                      case measure => have := HJG.out; have := HJ.out; omega
                      case rel => exact ⟨j + 1, by have hn80 := HSM.out; rw [show wrap64 ((j : Int) + 1 + 1) = (j : Int) + 1 + 1 from wr0 (by omega)]; exact congrArg (Value.int .i64) (by omega), by omega, Nat.le_refl _, HB5⟩
                    · obtain rfl : cb = ca := g1
                      subst g2
                      subst g3
                      have g7 := g5 hp0
                      subst g7
                      have hpz1 : ¬ (pq : Int) = 0 := by omega
                      have hpz2 : ((pq : Int) == 0) = false := by simpa using hpz1
                      have hpz3 : ((pq : Int) != 0) = true := by simpa using hpz1
                      have HPZ := Lib.hid (And.intro hpz1 (And.intro hpz2 hpz3))
                      clear hpz1 hpz2 hpz3
                      clear g4 g5 hu1 hp0
                      go_upto_region 28 with (fail)
                      have hdr := below_drw v1
                      try simp only [List.append_eq, List.cons_append, List.nil_append]
                      refine RX.wp_region_plan (fun w w' => Below w.heap.size w w') [.it (.pointer (some ⟨b1, 3, none⟩)), .it (.bool true), .it (.pointer (some ⟨b2, 3, none⟩)), .it (.bool true), .it (.bool false), .it (.bool false), .it (.pointer (some ⟨b2, 3, none⟩)), .it (.bool true), .it (.pointer (some ⟨b2, 0, none⟩)), .it (.int .u8 2), .it (.bool true), .it (.bool false), .it (.bool false), .it (.bool false), .it (.slice (some ⟨b, 0, none⟩) m c), .it (.int .i64 (q : Int)), .it (.pointer (some ⟨b, q, none⟩)), .it (.int .i64 (pq : Int)), .it (.bool false), .it (.bool false), .it undef, .it undef, .it (.bool false), .it (.bool false), .it undef, .it undef, .it undef, .it undef, .it undef, .it (.bool false), .it (.bool false), .it (.bool false), .it (.slice (some ⟨b, 0, none⟩) m c), .it (.int .i64 (q : Int)), .it (.pointer (some ⟨b, q, none⟩)), .it (.int .i64 (pq : Int)), .it (.bool true), .it (.bool true), .it (.pointer (some ⟨b2, 2, none⟩)), .it (.int .i64 0), .it (.bool false), .it (.bool false), .it (.bool false)] (by kernel_rfl) (RX.plan_same back28 (by kernel_rfl)) (fun _ => Below.refl _ _) (fun _ _ _ => below_tr) ?_
                      refine RX.seqP_value (fun _ => Below.refl _ _) _ (by first | rfl | simp) (fun w' hw' hctx => by (go_simp); (try first | with_reducible rfl | simp)) ?_
                      simp only [Act.put, List.setIfInBounds_toArray, List.set_cons_zero, List.set_cons_succ]
                      refine RX.seqP_value (fun _ => Below.refl _ _) _ (by first | rfl | simp) (fun w' hw' hctx => ?_) ?_
                      · have x3 := (HL1.out.below (below_tr hdr hw')).cell (o := 3) rfl
                        have y0 := (HL2.out.below (below_tr hdr hw')).cell (o := 0) rfl
                        have y2 := (HL2.out.below (below_tr hdr hw')).cell (o := 2) rfl
                        have y3 := (HL2.out.below (below_tr hdr hw')).cell (o := 3) rfl
                        go_simp
                        try first | with_reducible rfl | simp
                      simp only [Act.put, List.setIfInBounds_toArray, List.set_cons_zero, List.set_cons_succ]
                      refine RX.seqP_value (fun _ => Below.refl _ _) _ (by first | rfl | simp) (fun w' hw' hctx => by (go_simp); (try first | with_reducible rfl | simp)) ?_
                      simp only [Act.put, List.setIfInBounds_toArray, List.set_cons_zero, List.set_cons_succ]
                      refine RX.seqP_value (fun _ => Below.refl _ _) _ (by first | rfl | simp) (fun w' hw' hctx => ?_) ?_
                      · have x3 := (HL1.out.below (below_tr hdr hw')).cell (o := 3) rfl
                        have y0 := (HL2.out.below (below_tr hdr hw')).cell (o := 0) rfl
                        have y2 := (HL2.out.below (below_tr hdr hw')).cell (o := 2) rfl
                        have y3 := (HL2.out.below (below_tr hdr hw')).cell (o := 3) rfl
                        go_simp
                        try first | with_reducible rfl | simp
                      simp only [Act.put, List.setIfInBounds_toArray, List.set_cons_zero, List.set_cons_succ]
                      refine RX.seqP_value (fun _ => Below.refl _ _) _ (by first | rfl | simp) (fun w' hw' hctx => by (go_simp); (try first | with_reducible rfl | simp)) ?_
                      simp only [Act.put, List.setIfInBounds_toArray, List.set_cons_zero, List.set_cons_succ]
                      refine RX.seqP_value (fun _ => Below.refl _ _) _ (by first | rfl | simp) (fun w' hw' hctx => by (go_simp); (try first | with_reducible rfl | simp)) ?_
                      simp only [Act.put, List.setIfInBounds_toArray, List.set_cons_zero, List.set_cons_succ]
                      refine RX.seqP_value (fun _ => Below.refl _ _) _ (by first | rfl | simp) (fun w' hw' hctx => by (go_simp); (try first | with_reducible rfl | simp)) ?_
                      simp only [Act.put, List.setIfInBounds_toArray, List.set_cons_zero, List.set_cons_succ]
                      refine RX.seqP_value (fun _ => Below.refl _ _) _ (by first | rfl | simp) (fun w' hw' hctx => ?_) ?_
                      · have x3 := (HL1.out.below (below_tr hdr hw')).cell (o := 3) rfl
                        have y0 := (HL2.out.below (below_tr hdr hw')).cell (o := 0) rfl
                        have y2 := (HL2.out.below (below_tr hdr hw')).cell (o := 2) rfl
                        have y3 := (HL2.out.below (below_tr hdr hw')).cell (o := 3) rfl
                        go_simp
                        try first | with_reducible rfl | simp
                      simp only [Act.put, List.setIfInBounds_toArray, List.set_cons_zero, List.set_cons_succ]
                      refine RX.seqP_value (fun _ => Below.refl _ _) _ (by first | rfl | simp) (fun w' hw' hctx => by (go_simp); (try first | with_reducible rfl | simp)) ?_
                      simp only [Act.put, List.setIfInBounds_toArray, List.set_cons_zero, List.set_cons_succ]
                      refine RX.seqP_value (fun _ => Below.refl _ _) _ (by first | rfl | simp) (fun w' hw' hctx => ?_) ?_
                      · have x3 := (HL1.out.below (below_tr hdr hw')).cell (o := 3) rfl
                        have y0 := (HL2.out.below (below_tr hdr hw')).cell (o := 0) rfl
                        have y2 := (HL2.out.below (below_tr hdr hw')).cell (o := 2) rfl
                        have y3 := (HL2.out.below (below_tr hdr hw')).cell (o := 3) rfl
                        go_simp
                        try first | with_reducible rfl | simp
                      simp only [Act.put, List.setIfInBounds_toArray, List.set_cons_zero, List.set_cons_succ]
                      refine RX.seqP_value (fun _ => Below.refl _ _) _ (by first | rfl | simp) (fun w' hw' hctx => by (go_simp); (try first | with_reducible rfl | simp)) ?_
                      simp only [Act.put, List.setIfInBounds_toArray, List.set_cons_zero, List.set_cons_succ]
                      refine RX.seqP_value (fun _ => Below.refl _ _) _ (by first | rfl | simp) (fun w' hw' hctx => by (go_simp); (try first | with_reducible rfl | simp)) ?_
                      simp only [Act.put, List.setIfInBounds_toArray, List.set_cons_zero, List.set_cons_succ]
                      refine RX.seqP_value (fun _ => Below.refl _ _) _ (by first | rfl | simp) (fun w' hw' hctx => by (go_simp); (try first | with_reducible rfl | simp)) ?_
                      simp only [Act.put, List.setIfInBounds_toArray, List.set_cons_zero, List.set_cons_succ]
                      refine RX.seqP_value (fun _ => Below.refl _ _) _ (by first | rfl | simp) (fun w' hw' hctx => by (go_simp); (try first | with_reducible rfl | simp)) ?_
                      simp only [Act.put, List.setIfInBounds_toArray, List.set_cons_zero, List.set_cons_succ]
                      refine RX.seqP_value (fun _ => Below.refl _ _) _ (by first | rfl | simp) (fun w' hw' hctx => by (go_simp); (try first | with_reducible rfl | simp)) ?_
                      simp only [Act.put, List.setIfInBounds_toArray, List.set_cons_zero, List.set_cons_succ]
                      refine RX.seqP_value (fun _ => Below.refl _ _) _ (by first | rfl | simp) (fun w' hw' hctx => by (go_simp); (try first | with_reducible rfl | simp)) ?_
                      simp only [Act.put, List.setIfInBounds_toArray, List.set_cons_zero, List.set_cons_succ]
                      refine RX.seqP_value (fun _ => Below.refl _ _) _ (by first | rfl | simp) (fun w' hw' hctx => ?_) ?_
                      · have hqm : (q : Int) < (m : Int) := by have := HMN1.out; have := HQ.out; omega
                        have hq0 : (0 : Int) ≤ q := by omega
                        go_simp
                        try first | with_reducible rfl | simp
                      simp only [Act.put, List.setIfInBounds_toArray, List.set_cons_zero, List.set_cons_succ]
                      refine RX.seqP_value (fun _ => Below.refl _ _) _ (by first | rfl | simp) (fun w' hw' hctx => ?_) ?_
                      · obtain ⟨s0, s1⟩ := HPA.out w' (below_tr HB2.out (below_tr HV1.out (below_tr hdr hw'))) HMN1.out
                        go_simp
                        try first | with_reducible rfl | simp
                      simp only [Act.put, List.setIfInBounds_toArray, List.set_cons_zero, List.set_cons_succ]
                      refine RX.seqP_value (fun _ => Below.refl _ _) _ (by first | rfl | simp) (fun w' hw' hctx => ?_) ?_
                      · obtain ⟨hpz1, hpz2, hpz3⟩ := HPZ.out
                        go_simp
                        try first | with_reducible rfl | simp
                      simp only [Act.put, List.setIfInBounds_toArray, List.set_cons_zero, List.set_cons_succ]
                      refine RX.seqP_value (fun _ => Below.refl _ _) _ (by first | rfl | simp) (fun w' hw' hctx => by (go_simp); (try first | with_reducible rfl | simp)) ?_
                      simp only [Act.put, List.setIfInBounds_toArray, List.set_cons_zero, List.set_cons_succ]
                      refine RX.seqP_skip (by first | rfl | simp) ?_
                      simp only [Act.put, List.setIfInBounds_toArray, List.set_cons_zero, List.set_cons_succ]
                      refine RX.seqP_skip (by first | rfl | simp) ?_
                      simp only [Act.put, List.setIfInBounds_toArray, List.set_cons_zero, List.set_cons_succ]
                      refine RX.seqP_value (fun _ => Below.refl _ _) _ (by first | rfl | simp) (fun w' hw' hctx => by (go_simp); (try first | with_reducible rfl | simp)) ?_
                      simp only [Act.put, List.setIfInBounds_toArray, List.set_cons_zero, List.set_cons_succ]
                      refine RX.seqP_value (fun _ => Below.refl _ _) _ (by first | rfl | simp) (fun w' hw' hctx => by (go_simp); (try first | with_reducible rfl | simp)) ?_
                      simp only [Act.put, List.setIfInBounds_toArray, List.set_cons_zero, List.set_cons_succ]
                      refine RX.seqP_skip (by first | rfl | simp) ?_
                      simp only [Act.put, List.setIfInBounds_toArray, List.set_cons_zero, List.set_cons_succ]
                      refine RX.seqP_skip (by first | rfl | simp) ?_
                      simp only [Act.put, List.setIfInBounds_toArray, List.set_cons_zero, List.set_cons_succ]
                      refine RX.seqP_skip (by first | rfl | simp) ?_
                      simp only [Act.put, List.setIfInBounds_toArray, List.set_cons_zero, List.set_cons_succ]
                      refine RX.seqP_skip (by first | rfl | simp) ?_
                      simp only [Act.put, List.setIfInBounds_toArray, List.set_cons_zero, List.set_cons_succ]
                      refine RX.seqP_skip (by first | rfl | simp) ?_
                      simp only [Act.put, List.setIfInBounds_toArray, List.set_cons_zero, List.set_cons_succ]
                      refine RX.seqP_value (fun _ => Below.refl _ _) _ (by first | rfl | simp) (fun w' hw' hctx => by (go_simp); (try first | with_reducible rfl | simp)) ?_
                      simp only [Act.put, List.setIfInBounds_toArray, List.set_cons_zero, List.set_cons_succ]
                      refine RX.seqP_value (fun _ => Below.refl _ _) _ (by first | rfl | simp) (fun w' hw' hctx => by (go_simp); (try first | with_reducible rfl | simp)) ?_
                      simp only [Act.put, List.setIfInBounds_toArray, List.set_cons_zero, List.set_cons_succ]
                      refine RX.seqP_value (fun _ => Below.refl _ _) _ (by first | rfl | simp) (fun w' hw' hctx => by (go_simp); (try first | with_reducible rfl | simp)) ?_
                      simp only [Act.put, List.setIfInBounds_toArray, List.set_cons_zero, List.set_cons_succ]
                      refine RX.seqP_value (fun _ => Below.refl _ _) _ (by first | rfl | simp) (fun w' hw' hctx => by (go_simp); (try first | with_reducible rfl | simp)) ?_
                      simp only [Act.put, List.setIfInBounds_toArray, List.set_cons_zero, List.set_cons_succ]
                      refine RX.seqP_value (fun _ => Below.refl _ _) _ (by first | rfl | simp) (fun w' hw' hctx => by (go_simp); (try first | with_reducible rfl | simp)) ?_
                      simp only [Act.put, List.setIfInBounds_toArray, List.set_cons_zero, List.set_cons_succ]
                      refine RX.seqP_value (fun _ => Below.refl _ _) _ (by first | rfl | simp) (fun w' hw' hctx => ?_) ?_
                      · have hqm : (q : Int) < (m : Int) := by have := HMN1.out; have := HQ.out; omega
                        have hq0 : (0 : Int) ≤ q := by omega
                        go_simp
                        try first | with_reducible rfl | simp
                      simp only [Act.put, List.setIfInBounds_toArray, List.set_cons_zero, List.set_cons_succ]
                      refine RX.seqP_value (fun _ => Below.refl _ _) _ (by first | rfl | simp) (fun w' hw' hctx => ?_) ?_
                      · obtain ⟨s0, s1⟩ := HPA.out w' (below_tr HB2.out (below_tr HV1.out (below_tr hdr hw'))) HMN1.out
                        go_simp
                        try first | with_reducible rfl | simp
                      simp only [Act.put, List.setIfInBounds_toArray, List.set_cons_zero, List.set_cons_succ]
                      refine RX.seqP_value (fun _ => Below.refl _ _) _ (by first | rfl | simp) (fun w' hw' hctx => ?_) ?_
                      · obtain ⟨hpz1, hpz2, hpz3⟩ := HPZ.out
                        go_simp
                        try first | with_reducible rfl | simp
                      simp only [Act.put, List.setIfInBounds_toArray, List.set_cons_zero, List.set_cons_succ]
                      refine RX.seqP_value (fun _ => Below.refl _ _) _ (by first | rfl | simp) (fun w' hw' hctx => by (go_simp); (try first | with_reducible rfl | simp)) ?_
                      simp only [Act.put, List.setIfInBounds_toArray, List.set_cons_zero, List.set_cons_succ]
                      refine RX.seqP_value (fun _ => Below.refl _ _) _ (by first | rfl | simp) (fun w' hw' hctx => by (go_simp); (try first | with_reducible rfl | simp)) ?_
                      simp only [Act.put, List.setIfInBounds_toArray, List.set_cons_zero, List.set_cons_succ]
                      refine RX.seqP_value (fun _ => Below.refl _ _) _ (by first | rfl | simp) (fun w' hw' hctx => ?_) ?_
                      · have x3 := (HL1.out.below (below_tr hdr hw')).cell (o := 3) rfl
                        have y0 := (HL2.out.below (below_tr hdr hw')).cell (o := 0) rfl
                        have y2 := (HL2.out.below (below_tr hdr hw')).cell (o := 2) rfl
                        have y3 := (HL2.out.below (below_tr hdr hw')).cell (o := 3) rfl
                        go_simp
                        try first | with_reducible rfl | simp
                      simp only [Act.put, List.setIfInBounds_toArray, List.set_cons_zero, List.set_cons_succ]
                      refine RX.seqP_value (fun _ => Below.refl _ _) _ (by first | rfl | simp) (fun w' hw' hctx => by (go_simp); (try first | with_reducible rfl | simp)) ?_
                      simp only [Act.put, List.setIfInBounds_toArray, List.set_cons_zero, List.set_cons_succ]
                      refine RX.seqP_value (fun _ => Below.refl _ _) _ (by first | rfl | simp) (fun w' hw' hctx => by (go_simp); (try first | with_reducible rfl | simp)) ?_
                      simp only [Act.put, List.setIfInBounds_toArray, List.set_cons_zero, List.set_cons_succ]
                      refine RX.seqP_value (fun _ => Below.refl _ _) _ (by first | rfl | simp) (fun w' hw' hctx => by (go_simp); (try first | with_reducible rfl | simp)) ?_
                      simp only [Act.put, List.setIfInBounds_toArray, List.set_cons_zero, List.set_cons_succ]
                      refine RX.seqP_nil (fun v2 hR hctx _ => ?_)
                      have hb5 := below_tr hdr hR
                      clear hctx hR
                      have HB5 := Lib.hid (below_tr HB2.out (below_tr HV1.out hb5))
                      clear hb5 hdr HV1 HL1 HL2
                      go_wp2_with fail
                      go_roundg (n - (j + 1))
                      case measure => have := HJG.out; have := HJ.out; omega
                      case rel => exact ⟨j + 1, by have hn80 := HSM.out; rw [show wrap64 ((j : Int) + 1 + 1) = (j : Int) + 1 + 1 from wr0 (by omega)]; exact congrArg (Value.int .i64) (by omega), by omega, Nat.le_refl _, HB5⟩
                  · by_cases hp0 : pq = 0
                    · obtain rfl : cb = ca := g1
                      subst g2
                      subst g3
                      subst hp0
                      clear g4 g5 hu1
                      go_upto_region 28 with (fail)
                      have hdr := below_drw v1
                      try simp only [List.append_eq, List.cons_append, List.nil_append]
                      refine RX.wp_region_plan (fun w w' => Below w.heap.size w w') [.it (.pointer (some ⟨b1, 3, none⟩)), .it (.bool false), .it (.pointer (some ⟨b2, 3, none⟩)), .it (.bool false), .it (.bool false), .it (.bool false), .it (.pointer (some ⟨b2, 3, none⟩)), .it (.bool false), .it (.pointer (some ⟨b2, 0, none⟩)), .it (.int .u8 3), .it (.bool false), .it (.bool false), .it (.bool false), .it (.bool false), .it (.slice (some ⟨b, 0, none⟩) m c), .it (.int .i64 (q : Int)), .it (.pointer (some ⟨b, q, none⟩)), .it (.int .i64 0), .it (.bool true), .it (.bool true), .it (.pointer (some ⟨b2, 3, none⟩)), .it (.bool false), .it (.bool false), .it (.bool false), .it undef, .it undef, .it undef, .it undef, .it undef, .it (.bool false), .it (.bool false), .it (.bool false), .it (.slice (some ⟨b, 0, none⟩) m c), .it (.int .i64 (q : Int)), .it (.pointer (some ⟨b, q, none⟩)), .it (.int .i64 0), .it (.bool false), .it (.bool false), .it undef, .it undef, .it undef, .it (.bool false), .it (.bool false)] (by kernel_rfl) (RX.plan_same back28 (by kernel_rfl)) (fun _ => Below.refl _ _) (fun _ _ _ => below_tr) ?_
                      refine RX.seqP_value (fun _ => Below.refl _ _) _ (by first | rfl | simp) (fun w' hw' hctx => by (go_simp); (try first | with_reducible rfl | simp)) ?_
                      simp only [Act.put, List.setIfInBounds_toArray, List.set_cons_zero, List.set_cons_succ]
                      refine RX.seqP_value (fun _ => Below.refl _ _) _ (by first | rfl | simp) (fun w' hw' hctx => ?_) ?_
                      · have x3 := (HL1.out.below (below_tr hdr hw')).cell (o := 3) rfl
                        have y0 := (HL2.out.below (below_tr hdr hw')).cell (o := 0) rfl
                        have y2 := (HL2.out.below (below_tr hdr hw')).cell (o := 2) rfl
                        have y3 := (HL2.out.below (below_tr hdr hw')).cell (o := 3) rfl
                        go_simp
                        try first | with_reducible rfl | simp
                      simp only [Act.put, List.setIfInBounds_toArray, List.set_cons_zero, List.set_cons_succ]
                      refine RX.seqP_value (fun _ => Below.refl _ _) _ (by first | rfl | simp) (fun w' hw' hctx => by (go_simp); (try first | with_reducible rfl | simp)) ?_
                      simp only [Act.put, List.setIfInBounds_toArray, List.set_cons_zero, List.set_cons_succ]
                      refine RX.seqP_value (fun _ => Below.refl _ _) _ (by first | rfl | simp) (fun w' hw' hctx => ?_) ?_
                      · have x3 := (HL1.out.below (below_tr hdr hw')).cell (o := 3) rfl
                        have y0 := (HL2.out.below (below_tr hdr hw')).cell (o := 0) rfl
                        have y2 := (HL2.out.below (below_tr hdr hw')).cell (o := 2) rfl
                        have y3 := (HL2.out.below (below_tr hdr hw')).cell (o := 3) rfl
                        go_simp
                        try first | with_reducible rfl | simp
                      simp only [Act.put, List.setIfInBounds_toArray, List.set_cons_zero, List.set_cons_succ]
                      refine RX.seqP_value (fun _ => Below.refl _ _) _ (by first | rfl | simp) (fun w' hw' hctx => by (go_simp); (try first | with_reducible rfl | simp)) ?_
                      simp only [Act.put, List.setIfInBounds_toArray, List.set_cons_zero, List.set_cons_succ]
                      refine RX.seqP_value (fun _ => Below.refl _ _) _ (by first | rfl | simp) (fun w' hw' hctx => by (go_simp); (try first | with_reducible rfl | simp)) ?_
                      simp only [Act.put, List.setIfInBounds_toArray, List.set_cons_zero, List.set_cons_succ]
                      refine RX.seqP_value (fun _ => Below.refl _ _) _ (by first | rfl | simp) (fun w' hw' hctx => by (go_simp); (try first | with_reducible rfl | simp)) ?_
                      simp only [Act.put, List.setIfInBounds_toArray, List.set_cons_zero, List.set_cons_succ]
                      refine RX.seqP_value (fun _ => Below.refl _ _) _ (by first | rfl | simp) (fun w' hw' hctx => ?_) ?_
                      · have x3 := (HL1.out.below (below_tr hdr hw')).cell (o := 3) rfl
                        have y0 := (HL2.out.below (below_tr hdr hw')).cell (o := 0) rfl
                        have y2 := (HL2.out.below (below_tr hdr hw')).cell (o := 2) rfl
                        have y3 := (HL2.out.below (below_tr hdr hw')).cell (o := 3) rfl
                        go_simp
                        try first | with_reducible rfl | simp
                      simp only [Act.put, List.setIfInBounds_toArray, List.set_cons_zero, List.set_cons_succ]
                      refine RX.seqP_value (fun _ => Below.refl _ _) _ (by first | rfl | simp) (fun w' hw' hctx => by (go_simp); (try first | with_reducible rfl | simp)) ?_
                      simp only [Act.put, List.setIfInBounds_toArray, List.set_cons_zero, List.set_cons_succ]
                      refine RX.seqP_value (fun _ => Below.refl _ _) _ (by first | rfl | simp) (fun w' hw' hctx => ?_) ?_
                      · have x3 := (HL1.out.below (below_tr hdr hw')).cell (o := 3) rfl
                        have y0 := (HL2.out.below (below_tr hdr hw')).cell (o := 0) rfl
                        have y2 := (HL2.out.below (below_tr hdr hw')).cell (o := 2) rfl
                        have y3 := (HL2.out.below (below_tr hdr hw')).cell (o := 3) rfl
                        go_simp
                        try first | with_reducible rfl | simp
                      simp only [Act.put, List.setIfInBounds_toArray, List.set_cons_zero, List.set_cons_succ]
                      refine RX.seqP_value (fun _ => Below.refl _ _) _ (by first | rfl | simp) (fun w' hw' hctx => by (go_simp); (try first | with_reducible rfl | simp)) ?_
                      simp only [Act.put, List.setIfInBounds_toArray, List.set_cons_zero, List.set_cons_succ]
                      refine RX.seqP_value (fun _ => Below.refl _ _) _ (by first | rfl | simp) (fun w' hw' hctx => by (go_simp); (try first | with_reducible rfl | simp)) ?_
                      simp only [Act.put, List.setIfInBounds_toArray, List.set_cons_zero, List.set_cons_succ]
                      refine RX.seqP_value (fun _ => Below.refl _ _) _ (by first | rfl | simp) (fun w' hw' hctx => by (go_simp); (try first | with_reducible rfl | simp)) ?_
                      simp only [Act.put, List.setIfInBounds_toArray, List.set_cons_zero, List.set_cons_succ]
                      refine RX.seqP_value (fun _ => Below.refl _ _) _ (by first | rfl | simp) (fun w' hw' hctx => by (go_simp); (try first | with_reducible rfl | simp)) ?_
                      simp only [Act.put, List.setIfInBounds_toArray, List.set_cons_zero, List.set_cons_succ]
                      refine RX.seqP_value (fun _ => Below.refl _ _) _ (by first | rfl | simp) (fun w' hw' hctx => by (go_simp); (try first | with_reducible rfl | simp)) ?_
                      simp only [Act.put, List.setIfInBounds_toArray, List.set_cons_zero, List.set_cons_succ]
                      refine RX.seqP_value (fun _ => Below.refl _ _) _ (by first | rfl | simp) (fun w' hw' hctx => by (go_simp); (try first | with_reducible rfl | simp)) ?_
                      simp only [Act.put, List.setIfInBounds_toArray, List.set_cons_zero, List.set_cons_succ]
                      refine RX.seqP_value (fun _ => Below.refl _ _) _ (by first | rfl | simp) (fun w' hw' hctx => ?_) ?_
                      · have hqm : (q : Int) < (m : Int) := by have := HMN1.out; have := HQ.out; omega
                        have hq0 : (0 : Int) ≤ q := by omega
                        go_simp
                        try first | with_reducible rfl | simp
                      simp only [Act.put, List.setIfInBounds_toArray, List.set_cons_zero, List.set_cons_succ]
                      refine RX.seqP_value (fun _ => Below.refl _ _) _ (by first | rfl | simp) (fun w' hw' hctx => ?_) ?_
                      · obtain ⟨s0, s1⟩ := HPA.out w' (below_tr HB2.out (below_tr HV1.out (below_tr hdr hw'))) HMN1.out
                        go_simp
                        try first | with_reducible rfl | simp
                      simp only [Act.put, List.setIfInBounds_toArray, List.set_cons_zero, List.set_cons_succ]
                      refine RX.seqP_value (fun _ => Below.refl _ _) _ (by first | rfl | simp) (fun w' hw' hctx => ?_) ?_
                      · skip
                        go_simp
                        try first | with_reducible rfl | simp
                      simp only [Act.put, List.setIfInBounds_toArray, List.set_cons_zero, List.set_cons_succ]
                      refine RX.seqP_value (fun _ => Below.refl _ _) _ (by first | rfl | simp) (fun w' hw' hctx => by (go_simp); (try first | with_reducible rfl | simp)) ?_
                      simp only [Act.put, List.setIfInBounds_toArray, List.set_cons_zero, List.set_cons_succ]
                      refine RX.seqP_value (fun _ => Below.refl _ _) _ (by first | rfl | simp) (fun w' hw' hctx => by (go_simp); (try first | with_reducible rfl | simp)) ?_
                      simp only [Act.put, List.setIfInBounds_toArray, List.set_cons_zero, List.set_cons_succ]
                      refine RX.seqP_value (fun _ => Below.refl _ _) _ (by first | rfl | simp) (fun w' hw' hctx => ?_) ?_
                      · have x3 := (HL1.out.below (below_tr hdr hw')).cell (o := 3) rfl
                        have y0 := (HL2.out.below (below_tr hdr hw')).cell (o := 0) rfl
                        have y2 := (HL2.out.below (below_tr hdr hw')).cell (o := 2) rfl
                        have y3 := (HL2.out.below (below_tr hdr hw')).cell (o := 3) rfl
                        go_simp
                        try first | with_reducible rfl | simp
                      simp only [Act.put, List.setIfInBounds_toArray, List.set_cons_zero, List.set_cons_succ]
                      refine RX.seqP_value (fun _ => Below.refl _ _) _ (by first | rfl | simp) (fun w' hw' hctx => by (go_simp); (try first | with_reducible rfl | simp)) ?_
                      simp only [Act.put, List.setIfInBounds_toArray, List.set_cons_zero, List.set_cons_succ]
                      refine RX.seqP_value (fun _ => Below.refl _ _) _ (by first | rfl | simp) (fun w' hw' hctx => by (go_simp); (try first | with_reducible rfl | simp)) ?_
                      simp only [Act.put, List.setIfInBounds_toArray, List.set_cons_zero, List.set_cons_succ]
                      refine RX.seqP_skip (by first | rfl | simp) ?_
                      simp only [Act.put, List.setIfInBounds_toArray, List.set_cons_zero, List.set_cons_succ]
                      refine RX.seqP_skip (by first | rfl | simp) ?_
                      simp only [Act.put, List.setIfInBounds_toArray, List.set_cons_zero, List.set_cons_succ]
                      refine RX.seqP_skip (by first | rfl | simp) ?_
                      simp only [Act.put, List.setIfInBounds_toArray, List.set_cons_zero, List.set_cons_succ]
                      refine RX.seqP_skip (by first | rfl | simp) ?_
                      simp only [Act.put, List.setIfInBounds_toArray, List.set_cons_zero, List.set_cons_succ]
                      refine RX.seqP_skip (by first | rfl | simp) ?_
                      simp only [Act.put, List.setIfInBounds_toArray, List.set_cons_zero, List.set_cons_succ]
                      refine RX.seqP_value (fun _ => Below.refl _ _) _ (by first | rfl | simp) (fun w' hw' hctx => by (go_simp); (try first | with_reducible rfl | simp)) ?_
                      simp only [Act.put, List.setIfInBounds_toArray, List.set_cons_zero, List.set_cons_succ]
                      refine RX.seqP_value (fun _ => Below.refl _ _) _ (by first | rfl | simp) (fun w' hw' hctx => by (go_simp); (try first | with_reducible rfl | simp)) ?_
                      simp only [Act.put, List.setIfInBounds_toArray, List.set_cons_zero, List.set_cons_succ]
                      refine RX.seqP_value (fun _ => Below.refl _ _) _ (by first | rfl | simp) (fun w' hw' hctx => by (go_simp); (try first | with_reducible rfl | simp)) ?_
                      simp only [Act.put, List.setIfInBounds_toArray, List.set_cons_zero, List.set_cons_succ]
                      refine RX.seqP_value (fun _ => Below.refl _ _) _ (by first | rfl | simp) (fun w' hw' hctx => by (go_simp); (try first | with_reducible rfl | simp)) ?_
                      simp only [Act.put, List.setIfInBounds_toArray, List.set_cons_zero, List.set_cons_succ]
                      refine RX.seqP_value (fun _ => Below.refl _ _) _ (by first | rfl | simp) (fun w' hw' hctx => by (go_simp); (try first | with_reducible rfl | simp)) ?_
                      simp only [Act.put, List.setIfInBounds_toArray, List.set_cons_zero, List.set_cons_succ]
                      refine RX.seqP_value (fun _ => Below.refl _ _) _ (by first | rfl | simp) (fun w' hw' hctx => ?_) ?_
                      · have hqm : (q : Int) < (m : Int) := by have := HMN1.out; have := HQ.out; omega
                        have hq0 : (0 : Int) ≤ q := by omega
                        go_simp
                        try first | with_reducible rfl | simp
                      simp only [Act.put, List.setIfInBounds_toArray, List.set_cons_zero, List.set_cons_succ]
                      refine RX.seqP_value (fun _ => Below.refl _ _) _ (by first | rfl | simp) (fun w' hw' hctx => ?_) ?_
                      · obtain ⟨s0, s1⟩ := HPA.out w' (below_tr HB2.out (below_tr HV1.out (below_tr hdr hw'))) HMN1.out
                        go_simp
                        try first | with_reducible rfl | simp
                      simp only [Act.put, List.setIfInBounds_toArray, List.set_cons_zero, List.set_cons_succ]
                      refine RX.seqP_value (fun _ => Below.refl _ _) _ (by first | rfl | simp) (fun w' hw' hctx => ?_) ?_
                      · skip
                        go_simp
                        try first | with_reducible rfl | simp
                      simp only [Act.put, List.setIfInBounds_toArray, List.set_cons_zero, List.set_cons_succ]
                      refine RX.seqP_value (fun _ => Below.refl _ _) _ (by first | rfl | simp) (fun w' hw' hctx => by (go_simp); (try first | with_reducible rfl | simp)) ?_
                      simp only [Act.put, List.setIfInBounds_toArray, List.set_cons_zero, List.set_cons_succ]
                      refine RX.seqP_skip (by first | rfl | simp) ?_
                      simp only [Act.put, List.setIfInBounds_toArray, List.set_cons_zero, List.set_cons_succ]
                      refine RX.seqP_skip (by first | rfl | simp) ?_
                      simp only [Act.put, List.setIfInBounds_toArray, List.set_cons_zero, List.set_cons_succ]
                      refine RX.seqP_skip (by first | rfl | simp) ?_
                      simp only [Act.put, List.setIfInBounds_toArray, List.set_cons_zero, List.set_cons_succ]
                      refine RX.seqP_value (fun _ => Below.refl _ _) _ (by first | rfl | simp) (fun w' hw' hctx => by (go_simp); (try first | with_reducible rfl | simp)) ?_
                      simp only [Act.put, List.setIfInBounds_toArray, List.set_cons_zero, List.set_cons_succ]
                      refine RX.seqP_value (fun _ => Below.refl _ _) _ (by first | rfl | simp) (fun w' hw' hctx => by (go_simp); (try first | with_reducible rfl | simp)) ?_
                      simp only [Act.put, List.setIfInBounds_toArray, List.set_cons_zero, List.set_cons_succ]
                      refine RX.seqP_nil (fun v2 hR hctx _ => ?_)
                      have hb5 := below_tr hdr hR
                      clear hctx hR
                      have HB5 := Lib.hid (below_tr HB2.out (below_tr HV1.out hb5))
                      clear hb5 hdr HV1 HL1 HL2
                      go_wp2_with fail
                      go_roundg (n - (j + 1))
                      case measure => have := HJG.out; have := HJ.out; omega
                      case rel => exact ⟨j + 1, by have hn80 := HSM.out; rw [show wrap64 ((j : Int) + 1 + 1) = (j : Int) + 1 + 1 from wr0 (by omega)]; exact congrArg (Value.int .i64) (by omega), by omega, Nat.le_refl _, HB5⟩
                    · obtain rfl : cb = ca := g1
                      subst g2
                      subst g3
                      have g7 := g5 hp0
                      subst g7
                      have hpz1 : ¬ (pq : Int) = 0 := by omega
                      have hpz2 : ((pq : Int) == 0) = false := by simpa using hpz1
                      have hpz3 : ((pq : Int) != 0) = true := by simpa using hpz1
                      have HPZ := Lib.hid (And.intro hpz1 (And.intro hpz2 hpz3))
                      clear hpz1 hpz2 hpz3
                      clear g4 g5 hu1 hp0
                      go_upto_region 28 with (fail)
                      have hdr := below_drw v1
                      try simp only [List.append_eq, List.cons_append, List.nil_append]
                      refine RX.wp_region_plan (fun w w' => Below w.heap.size w w') [.it (.pointer (some ⟨b1, 3, none⟩)), .it (.bool false), .it (.pointer (some ⟨b2, 3, none⟩)), .it (.bool false), .it (.bool false), .it (.bool false), .it (.pointer (some ⟨b2, 3, none⟩)), .it (.bool false), .it (.pointer (some ⟨b2, 0, none⟩)), .it (.int .u8 3), .it (.bool false), .it (.bool false), .it (.bool false), .it (.bool false), .it (.slice (some ⟨b, 0, none⟩) m c), .it (.int .i64 (q : Int)), .it (.pointer (some ⟨b, q, none⟩)), .it (.int .i64 (pq : Int)), .it (.bool false), .it (.bool false), .it undef, .it undef, .it (.bool false), .it (.bool false), .it undef, .it undef, .it undef, .it undef, .it undef, .it (.bool false), .it (.bool false), .it (.bool false), .it (.slice (some ⟨b, 0, none⟩) m c), .it (.int .i64 (q : Int)), .it (.pointer (some ⟨b, q, none⟩)), .it (.int .i64 (pq : Int)), .it (.bool true), .it (.bool true), .it (.pointer (some ⟨b2, 2, none⟩)), .it (.int .i64 0), .it (.bool false), .it (.bool false), .it (.bool false)] (by kernel_rfl) (RX.plan_same back28 (by kernel_rfl)) (fun _ => Below.refl _ _) (fun _ _ _ => below_tr) ?_
                      refine RX.seqP_value (fun _ => Below.refl _ _) _ (by first | rfl | simp) (fun w' hw' hctx => by (go_simp); (try first | with_reducible rfl | simp)) ?_
                      simp only [Act.put, List.setIfInBounds_toArray, List.set_cons_zero, List.set_cons_succ]
                      refine RX.seqP_value (fun _ => Below.refl _ _) _ (by first | rfl | simp) (fun w' hw' hctx => ?_) ?_
                      · have x3 := (HL1.out.below (below_tr hdr hw')).cell (o := 3) rfl
                        have y0 := (HL2.out.below (below_tr hdr hw')).cell (o := 0) rfl
                        have y2 := (HL2.out.below (below_tr hdr hw')).cell (o := 2) rfl
                        have y3 := (HL2.out.below (below_tr hdr hw')).cell (o := 3) rfl
                        go_simp
                        try first | with_reducible rfl | simp
                      simp only [Act.put, List.setIfInBounds_toArray, List.set_cons_zero, List.set_cons_succ]
                      refine RX.seqP_value (fun _ => Below.refl _ _) _ (by first | rfl | simp) (fun w' hw' hctx => by (go_simp); (try first | with_reducible rfl | simp)) ?_
                      simp only [Act.put, List.setIfInBounds_toArray, List.set_cons_zero, List.set_cons_succ]
                      refine RX.seqP_value (fun _ => Below.refl _ _) _ (by first | rfl | simp) (fun w' hw' hctx => ?_) ?_
                      · have x3 := (HL1.out.below (below_tr hdr hw')).cell (o := 3) rfl
                        have y0 := (HL2.out.below (below_tr hdr hw')).cell (o := 0) rfl
                        have y2 := (HL2.out.below (below_tr hdr hw')).cell (o := 2) rfl
                        have y3 := (HL2.out.below (below_tr hdr hw')).cell (o := 3) rfl
                        go_simp
                        try first | with_reducible rfl | simp
                      simp only [Act.put, List.setIfInBounds_toArray, List.set_cons_zero, List.set_cons_succ]
                      refine RX.seqP_value (fun _ => Below.refl _ _) _ (by first | rfl | simp) (fun w' hw' hctx => by (go_simp); (try first | with_reducible rfl | simp)) ?_
                      simp only [Act.put, List.setIfInBounds_toArray, List.set_cons_zero, List.set_cons_succ]
                      refine RX.seqP_value (fun _ => Below.refl _ _) _ (by first | rfl | simp) (fun w' hw' hctx => by (go_simp); (try first | with_reducible rfl | simp)) ?_
                      simp only [Act.put, List.setIfInBounds_toArray, List.set_cons_zero, List.set_cons_succ]
                      refine RX.seqP_value (fun _ => Below.refl _ _) _ (by first | rfl | simp) (fun w' hw' hctx => by (go_simp); (try first | with_reducible rfl | simp)) ?_
                      simp only [Act.put, List.setIfInBounds_toArray, List.set_cons_zero, List.set_cons_succ]
                      refine RX.seqP_value (fun _ => Below.refl _ _) _ (by first | rfl | simp) (fun w' hw' hctx => ?_) ?_
                      · have x3 := (HL1.out.below (below_tr hdr hw')).cell (o := 3) rfl
                        have y0 := (HL2.out.below (below_tr hdr hw')).cell (o := 0) rfl
                        have y2 := (HL2.out.below (below_tr hdr hw')).cell (o := 2) rfl
                        have y3 := (HL2.out.below (below_tr hdr hw')).cell (o := 3) rfl
                        go_simp
                        try first | with_reducible rfl | simp
                      simp only [Act.put, List.setIfInBounds_toArray, List.set_cons_zero, List.set_cons_succ]
                      refine RX.seqP_value (fun _ => Below.refl _ _) _ (by first | rfl | simp) (fun w' hw' hctx => by (go_simp); (try first | with_reducible rfl | simp)) ?_
                      simp only [Act.put, List.setIfInBounds_toArray, List.set_cons_zero, List.set_cons_succ]
                      refine RX.seqP_value (fun _ => Below.refl _ _) _ (by first | rfl | simp) (fun w' hw' hctx => ?_) ?_
                      · have x3 := (HL1.out.below (below_tr hdr hw')).cell (o := 3) rfl
                        have y0 := (HL2.out.below (below_tr hdr hw')).cell (o := 0) rfl
                        have y2 := (HL2.out.below (below_tr hdr hw')).cell (o := 2) rfl
                        have y3 := (HL2.out.below (below_tr hdr hw')).cell (o := 3) rfl
                        go_simp
                        try first | with_reducible rfl | simp
                      simp only [Act.put, List.setIfInBounds_toArray, List.set_cons_zero, List.set_cons_succ]
                      refine RX.seqP_value (fun _ => Below.refl _ _) _ (by first | rfl | simp) (fun w' hw' hctx => by (go_simp); (try first | with_reducible rfl | simp)) ?_
                      simp only [Act.put, List.setIfInBounds_toArray, List.set_cons_zero, List.set_cons_succ]
                      refine RX.seqP_value (fun _ => Below.refl _ _) _ (by first | rfl | simp) (fun w' hw' hctx => by (go_simp); (try first | with_reducible rfl | simp)) ?_
                      simp only [Act.put, List.setIfInBounds_toArray, List.set_cons_zero, List.set_cons_succ]
                      refine RX.seqP_value (fun _ => Below.refl _ _) _ (by first | rfl | simp) (fun w' hw' hctx => by (go_simp); (try first | with_reducible rfl | simp)) ?_
                      simp only [Act.put, List.setIfInBounds_toArray, List.set_cons_zero, List.set_cons_succ]
                      refine RX.seqP_value (fun _ => Below.refl _ _) _ (by first | rfl | simp) (fun w' hw' hctx => by (go_simp); (try first | with_reducible rfl | simp)) ?_
                      simp only [Act.put, List.setIfInBounds_toArray, List.set_cons_zero, List.set_cons_succ]
                      refine RX.seqP_value (fun _ => Below.refl _ _) _ (by first | rfl | simp) (fun w' hw' hctx => by (go_simp); (try first | with_reducible rfl | simp)) ?_
                      simp only [Act.put, List.setIfInBounds_toArray, List.set_cons_zero, List.set_cons_succ]
                      refine RX.seqP_value (fun _ => Below.refl _ _) _ (by first | rfl | simp) (fun w' hw' hctx => by (go_simp); (try first | with_reducible rfl | simp)) ?_
                      simp only [Act.put, List.setIfInBounds_toArray, List.set_cons_zero, List.set_cons_succ]
                      refine RX.seqP_value (fun _ => Below.refl _ _) _ (by first | rfl | simp) (fun w' hw' hctx => ?_) ?_
                      · have hqm : (q : Int) < (m : Int) := by have := HMN1.out; have := HQ.out; omega
                        have hq0 : (0 : Int) ≤ q := by omega
                        go_simp
                        try first | with_reducible rfl | simp
                      simp only [Act.put, List.setIfInBounds_toArray, List.set_cons_zero, List.set_cons_succ]
                      refine RX.seqP_value (fun _ => Below.refl _ _) _ (by first | rfl | simp) (fun w' hw' hctx => ?_) ?_
                      · obtain ⟨s0, s1⟩ := HPA.out w' (below_tr HB2.out (below_tr HV1.out (below_tr hdr hw'))) HMN1.out
                        go_simp
                        try first | with_reducible rfl | simp
                      simp only [Act.put, List.setIfInBounds_toArray, List.set_cons_zero, List.set_cons_succ]
                      refine RX.seqP_value (fun _ => Below.refl _ _) _ (by first | rfl | simp) (fun w' hw' hctx => ?_) ?_
                      · obtain ⟨hpz1, hpz2, hpz3⟩ := HPZ.out
                        go_simp
                        try first | with_reducible rfl | simp
                      simp only [Act.put, List.setIfInBounds_toArray, List.set_cons_zero, List.set_cons_succ]
                      refine RX.seqP_value (fun _ => Below.refl _ _) _ (by first | rfl | simp) (fun w' hw' hctx => by (go_simp); (try first | with_reducible rfl | simp)) ?_
                      simp only [Act.put, List.setIfInBounds_toArray, List.set_cons_zero, List.set_cons_succ]
                      refine RX.seqP_skip (by first | rfl | simp) ?_
                      simp only [Act.put, List.setIfInBounds_toArray, List.set_cons_zero, List.set_cons_succ]
                      refine RX.seqP_skip (by first | rfl | simp) ?_
                      simp only [Act.put, List.setIfInBounds_toArray, List.set_cons_zero, List.set_cons_succ]
                      refine RX.seqP_value (fun _ => Below.refl _ _) _ (by first | rfl | simp) (fun w' hw' hctx => by (go_simp); (try first | with_reducible rfl | simp)) ?_
                      simp only [Act.put, List.setIfInBounds_toArray, List.set_cons_zero, List.set_cons_succ]
                      refine RX.seqP_value (fun _ => Below.refl _ _) _ (by first | rfl | simp) (fun w' hw' hctx => by (go_simp); (try first | with_reducible rfl | simp)) ?_
                      simp only [Act.put, List.setIfInBounds_toArray, List.set_cons_zero, List.set_cons_succ]
                      refine RX.seqP_skip (by first | rfl | simp) ?_
                      simp only [Act.put, List.setIfInBounds_toArray, List.set_cons_zero, List.set_cons_succ]
                      refine RX.seqP_skip (by first | rfl | simp) ?_
                      simp only [Act.put, List.setIfInBounds_toArray, List.set_cons_zero, List.set_cons_succ]
                      refine RX.seqP_skip (by first | rfl | simp) ?_
                      simp only [Act.put, List.setIfInBounds_toArray, List.set_cons_zero, List.set_cons_succ]
                      refine RX.seqP_skip (by first | rfl | simp) ?_
                      simp only [Act.put, List.setIfInBounds_toArray, List.set_cons_zero, List.set_cons_succ]
                      refine RX.seqP_skip (by first | rfl | simp) ?_
                      simp only [Act.put, List.setIfInBounds_toArray, List.set_cons_zero, List.set_cons_succ]
                      refine RX.seqP_value (fun _ => Below.refl _ _) _ (by first | rfl | simp) (fun w' hw' hctx => by (go_simp); (try first | with_reducible rfl | simp)) ?_
                      simp only [Act.put, List.setIfInBounds_toArray, List.set_cons_zero, List.set_cons_succ]
                      refine RX.seqP_value (fun _ => Below.refl _ _) _ (by first | rfl | simp) (fun w' hw' hctx => by (go_simp); (try first | with_reducible rfl | simp)) ?_
                      simp only [Act.put, List.setIfInBounds_toArray, List.set_cons_zero, List.set_cons_succ]
                      refine RX.seqP_value (fun _ => Below.refl _ _) _ (by first | rfl | simp) (fun w' hw' hctx => by (go_simp); (try first | with_reducible rfl | simp)) ?_
                      simp only [Act.put, List.setIfInBounds_toArray, List.set_cons_zero, List.set_cons_succ]
                      refine RX.seqP_value (fun _ => Below.refl _ _) _ (by first | rfl | simp) (fun w' hw' hctx => by (go_simp); (try first | with_reducible rfl | simp)) ?_
                      simp only [Act.put, List.setIfInBounds_toArray, List.set_cons_zero, List.set_cons_succ]
                      refine RX.seqP_value (fun _ => Below.refl _ _) _ (by first | rfl | simp) (fun w' hw' hctx => by (go_simp); (try first | with_reducible rfl | simp)) ?_
                      simp only [Act.put, List.setIfInBounds_toArray, List.set_cons_zero, List.set_cons_succ]
                      refine RX.seqP_value (fun _ => Below.refl _ _) _ (by first | rfl | simp) (fun w' hw' hctx => ?_) ?_
                      · have hqm : (q : Int) < (m : Int) := by have := HMN1.out; have := HQ.out; omega
                        have hq0 : (0 : Int) ≤ q := by omega
                        go_simp
                        try first | with_reducible rfl | simp
                      simp only [Act.put, List.setIfInBounds_toArray, List.set_cons_zero, List.set_cons_succ]
                      refine RX.seqP_value (fun _ => Below.refl _ _) _ (by first | rfl | simp) (fun w' hw' hctx => ?_) ?_
                      · obtain ⟨s0, s1⟩ := HPA.out w' (below_tr HB2.out (below_tr HV1.out (below_tr hdr hw'))) HMN1.out
                        go_simp
                        try first | with_reducible rfl | simp
                      simp only [Act.put, List.setIfInBounds_toArray, List.set_cons_zero, List.set_cons_succ]
                      refine RX.seqP_value (fun _ => Below.refl _ _) _ (by first | rfl | simp) (fun w' hw' hctx => ?_) ?_
                      · obtain ⟨hpz1, hpz2, hpz3⟩ := HPZ.out
                        go_simp
                        try first | with_reducible rfl | simp
                      simp only [Act.put, List.setIfInBounds_toArray, List.set_cons_zero, List.set_cons_succ]
                      refine RX.seqP_value (fun _ => Below.refl _ _) _ (by first | rfl | simp) (fun w' hw' hctx => by (go_simp); (try first | with_reducible rfl | simp)) ?_
                      simp only [Act.put, List.setIfInBounds_toArray, List.set_cons_zero, List.set_cons_succ]
                      refine RX.seqP_value (fun _ => Below.refl _ _) _ (by first | rfl | simp) (fun w' hw' hctx => by (go_simp); (try first | with_reducible rfl | simp)) ?_
                      simp only [Act.put, List.setIfInBounds_toArray, List.set_cons_zero, List.set_cons_succ]
                      refine RX.seqP_value (fun _ => Below.refl _ _) _ (by first | rfl | simp) (fun w' hw' hctx => ?_) ?_
                      · have x3 := (HL1.out.below (below_tr hdr hw')).cell (o := 3) rfl
                        have y0 := (HL2.out.below (below_tr hdr hw')).cell (o := 0) rfl
                        have y2 := (HL2.out.below (below_tr hdr hw')).cell (o := 2) rfl
                        have y3 := (HL2.out.below (below_tr hdr hw')).cell (o := 3) rfl
                        go_simp
                        try first | with_reducible rfl | simp
                      simp only [Act.put, List.setIfInBounds_toArray, List.set_cons_zero, List.set_cons_succ]
                      refine RX.seqP_value (fun _ => Below.refl _ _) _ (by first | rfl | simp) (fun w' hw' hctx => by (go_simp); (try first | with_reducible rfl | simp)) ?_
                      simp only [Act.put, List.setIfInBounds_toArray, List.set_cons_zero, List.set_cons_succ]
                      refine RX.seqP_value (fun _ => Below.refl _ _) _ (by first | rfl | simp) (fun w' hw' hctx => by (go_simp); (try first | with_reducible rfl | simp)) ?_
                      simp only [Act.put, List.setIfInBounds_toArray, List.set_cons_zero, List.set_cons_succ]
                      refine RX.seqP_value (fun _ => Below.refl _ _) _ (by first | rfl | simp) (fun w' hw' hctx => by (go_simp); (try first | with_reducible rfl | simp)) ?_
                      simp only [Act.put, List.setIfInBounds_toArray, List.set_cons_zero, List.set_cons_succ]
                      refine RX.seqP_nil (fun v2 hR hctx _ => ?_)
                      have hb5 := below_tr hdr hR
                      clear hctx hR
                      have HB5 := Lib.hid (below_tr HB2.out (below_tr HV1.out hb5))
                      clear hb5 hdr HV1 HL1 HL2
                      go_wp2_with fail
                      go_roundg (n - (j + 1))
                      case measure => have := HJG.out; have := HJ.out; omega
                      case rel => exact ⟨j + 1, by have hn80 := HSM.out; rw [show wrap64 ((j : Int) + 1 + 1) = (j : Int) + 1 + 1 from wr0 (by omega)]; exact congrArg (Value.int .i64) (by omega), by omega, Nat.le_refl _, HB5⟩
              · have HNN : Hid (1 ≤ nn ∧ nn ≤ T.n) := Lib.hid (by have := HN9.out; omega)
                obtain ⟨pp, hpp⟩ : ∃ pp, T.par nn = pp := ⟨_, rfl⟩
                have hpl := HOK.out.par_lt nn HNN.out.1 HNN.out.2
                obtain ⟨p0, p1⟩ := par_at (HT6.out.below HB3.out) HPM.out HNN.out.1 HNN.out.2 wr (Below.refl _ _)
                rw [hpp] at hpl p1
                have HPP := Lib.hid hpp
                have HPL := Lib.hid hpl
                have hnz : ¬ (nn : Int) = 0 := by omega
                have hnm : (nn : Int) < (m : Int) := by have := HMN1.out; omega
                have hn00 : (0 : Int) ≤ nn := by omega
                clear hpp hpl
                cases u with
                | true =>
                  go_wp2_with fail
                  go_roundg pp
                  case measure => have := HPL.out; omega
                  case rel => exact ⟨true, pp, rfl, rfl, by have := HPL.out; omega, Nat.le_refl _, Lib.hid ⟨fun _ => HUD.out.1 (by simp), fun _ => by simp⟩, HB3⟩
                | false =>
                  by_cases hnq : nn = q
                  · have HNE : Hid (Und T.par q (j + 1)) := Lib.hid (HUD.out.1 (.inr ⟨hz0, by rw [hnq]; exact .self⟩))
                    subst hnq
                    go_wp2_with fail
                    go_roundg pp
                    case measure => have := HPL.out; omega
                    case rel => exact ⟨true, pp, rfl, rfl, by have := HPL.out; omega, Nat.le_refl _, Lib.hid ⟨fun _ => HNE.out, fun _ => .inl rfl⟩, HB3⟩
                  · have hnqz : ¬ (nn : Int) = (q : Int) := by omega
                    have hnqb : ((nn : Int) == (q : Int)) = false := by simpa using hnqz
                    have HD2 : Hid ((false = true ∨ (pp ≠ 0 ∧ Und T.par q pp)) ↔ Und T.par q (j + 1)) := Lib.hid ⟨fun h => HUD.out.1 (.inr ⟨hz0, by
                      rcases h with h | h
                      · cases h
                      · exact .up (by rw [HPP.out]; exact h.1) (by rw [HPP.out]; exact h.2)⟩), fun h => .inr (by
                      rcases HUD.out.2 h with h | h
                      · cases h
                      · rcases h.2.cases' with e | e
                        · exact absurd e hnq
                        · rw [HPP.out] at e; exact e)⟩
                    clear hnq
                    go_wp2_with fail
                    go_roundg pp
                    case measure => have := HPL.out; omega
                    case rel => exact ⟨false, pp, rfl, rfl, by have := HPL.out; omega, Nat.le_refl _, HD2, HB3⟩
          · obtain rfl : j = n := by omega
            have hltz2 : ¬ (j : Int) + 1 ≤ (j : Int) := by omega
            have HBL := Lib.hid (below_tr HT6.out.one.bel HB2.out)
            clear hlt2
            go_wp2_with fail
            go_ret
            exact ⟨rfl, HBL.out⟩
      · have hvb : (ve != 0) = true := by simpa using hv0
        have HBL := Lib.hid HT6.out.one.bel
        clear HT6 HWAS HNOW
        go_wp2_with fail
        go_ret
        exact ⟨rfl, HBL.out⟩

set_option maxRecDepth 100000 in
set_option maxHeartbeats 8000000 in
theorem back_abo (a0 : Option Addr) (c0 n0 : Nat) (l0 : List Stp) (hn0 : l0.length = n0) (id : Int) (hid : I64 id) (w : World) (hs0 : SlSt w a0 c0 l0) (hz : n0 ≤ 80) :
    Calls Try.prog 8 #[.slice a0 n0 c0, .int .i64 id, .bool false] w fun e w' => e = .returned (.bool true) ∧ Below w.heap.size w w' := by
  have mixed : Try.prog.follows Departure.mixedOrders = true := by kernel_rfl
  have hz2 : ¬ (80 : Int) < n0 := by omega
  have HZ := Lib.hid hz
  have HS := Lib.hid hs0
  have HN := Lib.hid hn0
  clear hs0 hn0
  go_enter Try.func8, Try.ntmps8
  have hcon := works_is w
  go_wp2_with fail
  refine (show Calls Try.prog _ _ _ _ from hcon).mono ?_
  rintro e w1 ⟨rfl, hb⟩
  have HB1 := Lib.hid hb
  clear hcon hb
  have hcon := one_new (w0 := w) HB1.out
  go_wp2_with fail
  refine (show Calls Try.prog _ _ _ _ from hcon).mono ?_
  rintro e w2 ⟨t, F0, rfl, h2, -, -⟩
  have HT := Lib.hid (Two.start h2)
  obtain ⟨b0, hb0⟩ : ∃ b, w2.heap.size = b := ⟨_, rfl⟩
  rw [hb0] at HT
  have HB0 := Lib.hid hb0
  clear hcon h2 HB1 hb0
  go_wp2_with fail
  simp only [HB0.out]
  go_loopg [8, 9] n0 (fun gg s8 s9 wr => ∃ (i b c : Nat) (F : Nat → Prop) (m : Nat), s8 = .slice (some ⟨b, 0, none⟩) m c ∧ s9 = .int .i64 i ∧ i ≤ n0 ∧ n0 - i ≤ gg ∧ Hid ((Tb.new.run (l0.take i)).n + 1 = m) ∧ Hid (Two w wr t (Tb.new.run (l0.take i)) F (Tb.new.run (l0.take i)) b c))
  case atStart => exact ⟨0, b0, 1, F0, 1, rfl, rfl, Nat.zero_le _, by omega, Lib.hid rfl, HT⟩
  case round =>
    obtain ⟨i, b, c, F, m, rfl, rfl, hin, hgg, HM, HTW⟩ := hrel
    clear HT HB0
    obtain ⟨T, hT⟩ : ∃ T, Tb.new.run (l0.take i) = T := ⟨_, rfl⟩
    have hsm := run_smallK (i := i) HN.out HZ.out
    have hok := Tb.new_ok.run (l0.take i)
    have hnum := Tb.new_nums.runs Tb.new_ok (l0.take i)
    rw [hT] at HM HTW hsm hok hnum
    by_cases hlt : i < n0
    · have hltz : (i : Int) < (n0 : Int) := by omega
      obtain ⟨st, hst⟩ := get_stpK (l := l0) (i := i) (by rw [HN.out]; exact hlt)
      obtain ⟨sb, so, rfl, d0, d1, d2⟩ := at_st (HS.out.below HTW.out.one.bel) hst
      have hwf := HS.out.wf st (List.mem_of_getElem? hst)
      have hlc : n0 ≤ c0 := by have := HS.out.lc; rw [HN.out] at this; exact this
      have hrun := run_takeK (T := Tb.new) hst
      rw [hT] at hrun
      obtain ⟨va, hva⟩ : ∃ va, T.stpI st.kind st.id = va := ⟨_, rfl⟩
      obtain ⟨ve, hve⟩ : ∃ ve, T.stpE st.kind st.id = ve := ⟨_, rfl⟩
      have hdo := fun (W : World) (hb : Below wr.heap.size wr W) => one_do (HTW.out.below hb).one (by omega) (by omega) st.kind st.id va ve hwf.1 hwf.2 hva hve rfl
      have hpar := stp_par T st.kind st.id
      rw [hve] at hpar
      have HPAR := Lib.hid hpar
      have HRUN := Lib.hid hrun
      have HGS := Lib.hid hst
      have HSM0 := Lib.hid hsm.1
      have hcon := hdo wr (Below.refl _ _)
      clear hwf hrun hva hve hdo hpar hst hok hnum hsm hT
      go_wp2_with fail
      refine (show Calls Try.prog _ _ _ _ from hcon).mono ?_
      intro e w3 hnx
      obtain ⟨F', rfl, htw3⟩ := HTW.out.step hnx
      have HTW3 := Lib.hid htw3
      have hst3 : sb < w3.heap.size ∧ w3.cell? ⟨sb, so + i * 2, none⟩ = some (.int .u8 st.kind) ∧ w3.cell? ⟨sb, so + i * 2 + 1, none⟩ = some (.int .i64 st.id) := by
        obtain ⟨b', o', e', d0, d1, d2⟩ := at_st (HS.out.below htw3.one.bel) (l := l0) (i := i) (s := st) HGS.out
        cases e'
        exact ⟨d0, d1, d2⟩
      obtain ⟨e0, e1, e2⟩ := hst3
      clear d0 d1 d2 hnx htw3 hcon HTW
      obtain ⟨U, hU⟩ : ∃ U, T.stp st.kind st.id = U := ⟨_, rfl⟩
      rw [hU] at HPAR HRUN HTW3
      by_cases hk0 : st.kind = 0
      · by_cases hv0 : ve = 0
        · obtain ⟨_, _, hn1, hid9, hp1, hp2⟩ := HPAR.out.resolve_right (fun h => h.1 ⟨hk0, hv0⟩)
          obtain ⟨b9, c9, w4, hrun4, htw4, _⟩ := HTW3.out.push (by have := HSM0.out; omega) hn1 hp1 (id := st.id) (by rw [hp2]; exact hid9)
          obtain ⟨m9, hm9⟩ : ∃ m9, U.n + 1 = m9 := ⟨_, rfl⟩
          rw [HM.out, hm9] at hrun4
          have HRUN4 := Lib.hid (hrun4 33)
          have HU := Lib.hid htw4
          have HM9 := Lib.hid hm9
          clear hn1 hid9 hp1 hp2 hrun4 htw4 hm9 HPAR HTW3 HM
          go_wp2_with (at_builtin; refine append_stepW rfl _ _ 33 rfl _ _ _ _ rfl rfl HRUN4.out ?_)
          clear HRUN4 e0 e1 e2
          go_roundg (n0 - (i + 1))
          case measure => omega
          case rel =>
            have hr := HRUN.out
            exact ⟨i + 1, b9, c9, F', m9, rfl, by exact congrArg (Value.int .i64) (by omega), by omega, by omega, Lib.hid (by rw [hr]; exact HM9.out), Lib.hid (by rw [hr]; exact HU.out)⟩
        · have hno : ¬ (st.kind = 0 ∧ ve = 0) := fun h => hv0 h.2
          have hv1 : (ve == 0) = false := by simpa using hv0
          clear hv0
          obtain ⟨hnn, hnp⟩ : U.n = T.n ∧ U.par = T.par := by
            rcases HPAR.out with h | h
            · exact absurd ⟨h.1, h.2.1⟩ hno
            · exact h.2
          have HU := Lib.hid (HTW3.out.same hnn hnp)
          have HM9 : Hid (U.n + 1 = m) := Lib.hid (by rw [hnn]; exact HM.out)
          clear hnn hnp hno HPAR HTW3 HM
          go_wp2_with fail
          clear e0 e1 e2
          go_roundg (n0 - (i + 1))
          case measure => omega
          case rel =>
            have hr := HRUN.out
            exact ⟨i + 1, b, c, F', m, rfl, by exact congrArg (Value.int .i64) (by omega), by omega, by omega, Lib.hid (by rw [hr]; exact HM9.out), Lib.hid (by rw [hr]; exact HU.out)⟩
      · have hno : ¬ (st.kind = 0 ∧ ve = 0) := fun h => hk0 h.1
        obtain ⟨hnn, hnp⟩ : U.n = T.n ∧ U.par = T.par := by
          rcases HPAR.out with h | h
          · exact absurd ⟨h.1, h.2.1⟩ hno
          · exact h.2
        have HU := Lib.hid (HTW3.out.same hnn hnp)
        have HM9 : Hid (U.n + 1 = m) := Lib.hid (by rw [hnn]; exact HM.out)
        clear hnn hnp hno HPAR HTW3 HM
        go_wp2_with fail
        clear e0 e1 e2
        go_roundg (n0 - (i + 1))
        case measure => omega
        case rel =>
          have hr := HRUN.out
          exact ⟨i + 1, b, c, F', m, rfl, by exact congrArg (Value.int .i64) (by omega), by omega, by omega, Lib.hid (by rw [hr]; exact HM9.out), Lib.hid (by rw [hr]; exact HU.out)⟩
    · have hltz : ¬ (i : Int) < (n0 : Int) := by omega
      have HTWA := Lib.hid HTW.out
      obtain ⟨b, hpb⟩ : ∃ pb, b = pb := ⟨_, rfl⟩
      obtain ⟨pc, hpc⟩ : ∃ pc, c = pc := ⟨_, rfl⟩
      obtain ⟨pm, hpm⟩ : ∃ pm, m = pm := ⟨_, rfl⟩
      subst hpb hpc hpm
      have HOK := Lib.hid hok
      have HNUM := Lib.hid hnum
      have HSMT := Lib.hid hsm
      obtain ⟨n, hn9⟩ : ∃ n, T.n = n := ⟨_, rfl⟩
      have HN9 := Lib.hid hn9
      have HSM : Hid (n ≤ 80) := Lib.hid (by rw [← hn9]; exact hsm.1)
      obtain ⟨ve, hve⟩ : ∃ ve, T.err id = ve := ⟨_, rfl⟩
      obtain ⟨U, hU⟩ : ∃ U, T.aboT id = U := ⟨_, rfl⟩
      have HVE := Lib.hid hve
      have HUE := Lib.hid hU
      have HUN : Hid (U.n = n ∧ U.par = T.par) := Lib.hid (by
        rw [← hU]
        unfold Tb.aboT
        split
        · exact ⟨hn9, rfl⟩
        · exact ⟨hn9, rfl⟩)
      have HID := Lib.hid hid
      clear hok hnum hsm hT HTW hn9 hve hU hlt
      have hcon := all_n HTWA.out.one.is HN9.out (by have := HSM.out; omega)
      go_wp2_with fail
      refine (show Calls Try.prog _ _ _ _ from hcon).mono ?_
      rintro e w3 ⟨aw, cw, rfl, hsw, hb⟩
      have HT3 := Lib.hid (HTWA.out.below hb)
      have HW3 := Lib.hid hsw
      clear hcon hsw hb
      have hcon := one_abort HT3.out.one (by have := HSMT.out; omega) id ve HID.out HVE.out HUE.out
      go_wp2_with fail
      refine (show Calls Try.prog _ _ _ _ from hcon).mono ?_
      intro e w5 hnx
      have HW5 : Hid (Seen (fun k => wr.heap.size ≤ k) w5 (.slice aw n cw) n T) := Lib.hid (by
        obtain ⟨_, _, _, t5, _⟩ := hnx
        exact HW3.out.stay (t5.stay (G := fun k => wr.heap.size ≤ k) (fun k hk hf => by have := HTWA.out.one.is.lt k hf; omega)))
      obtain ⟨F2, rfl, h5⟩ := HT3.out.step hnx
      have HT5 := Lib.hid h5
      clear hnx h5 hcon HW3 HT3 HTWA
      have hcon := all_n HT5.out.one.is HUN.out.1 (by have := HSM.out; omega)
      go_wp2_with fail
      refine (show Calls Try.prog _ _ _ _ from hcon).mono ?_
      rintro e w6 ⟨an, cn, rfl, hsn, hb⟩
      have HT6 := Lib.hid (HT5.out.below hb)
      have HWAS := Lib.hid (HW5.out.below hb)
      have HNOW := Lib.hid hsn
      clear hcon hsn hb HT5 HW5
      by_cases hv0 : ve = 0
      · subst hv0
        obtain ⟨hi1, hi2, hi3⟩ := Tb.err_ok HVE.out
        obtain ⟨q, hq⟩ : ∃ q : Nat, id = (q : Int) := ⟨id.toNat, by omega⟩
        subst hq
        have HQ : Hid (1 ≤ q ∧ q ≤ n) := Lib.hid (by have := HN9.out; omega)
        obtain ⟨pq, hpq⟩ : ∃ pq, T.par q = pq := ⟨_, rfl⟩
        obtain ⟨la, hla⟩ : ∃ la : Int, (U.last : Int) = la := ⟨_, rfl⟩
        have HPQ := Lib.hid hpq
        have HLA := Lib.hid hla
        have HPM := Lib.hid HM.out
        have HPA : Hid (∀ W', Below w6.heap.size w6 W' → m = n + 1 → b < W'.heap.size ∧ W'.cell? ⟨b, q, none⟩ = some (.int .i64 (pq : Int))) := Lib.hid (fun W' hb hm => by
          have := par_at HT6.out HPM.out HQ.out.1 (by have := HQ.out; have := HN9.out; omega) W' hb
          rwa [HPQ.out] at this)
        have HB6 := Lib.hid (Below.refl w6.heap.size w6)
        have HOU := Lib.hid HT6.out.one
        have HMN1 : Hid (m = n + 1) := Lib.hid (by have := HM.out; have := HN9.out; omega)
        clear hi1 hi2 hi3 hpq hla HID
        go_wp2_with fail
        go_loopg [15] n (fun gg s15 wr => ∃ (j : Nat), s15 = .int .i64 ((j : Int) + 1) ∧ j ≤ n ∧ n - j ≤ gg ∧ Hid (Below w6.heap.size w6 wr))
        case atStart => exact ⟨0, by simp, Nat.zero_le _, by omega, HB6⟩
        case round =>
          obtain ⟨j, rfl, hjn, hgg2, HB2⟩ := hrel
          clear HB6
          by_cases hlt2 : j < n
          · have hltz2 : (j : Int) + 1 ≤ (n : Int) := by omega
            have HJ := Lib.hid hlt2
            have HJG := Lib.hid (And.intro hjn hgg2)
            clear hlt2 hjn hgg2
            go_wp2_with fail
            go_loopg [16, 17] n (fun gg2 s16 s17 wr2 => ∃ (u : Bool) (nn : Nat), s16 = .bool u ∧ s17 = .int .i64 nn ∧ nn ≤ n ∧ nn ≤ gg2 ∧ Hid ((u = true ∨ (nn ≠ 0 ∧ Und T.par q nn)) ↔ Und T.par q (j + 1)) ∧ Hid (Below w6.heap.size w6 wr2))
            case atStart => exact ⟨false, j + 1, rfl, by exact congrArg (Value.int .i64) (by omega), by have := HJ.out; omega, by have := HJ.out; omega, Lib.hid ⟨fun h => h.elim (fun h => by cases h) (fun h => h.2), fun h => .inr ⟨by omega, h⟩⟩, HB2⟩
            case round =>
              obtain ⟨u, nn, rfl, rfl, hnn, hng, HUD, HB3⟩ := hrel
              clear HB2
              by_cases hz0 : nn = 0
              · subst hz0
                have HUU : Hid (u = true ↔ Und T.par q (j + 1)) := Lib.hid ⟨fun h => HUD.out.1 (.inl h), fun h => (HUD.out.2 h).elim (fun h => h) (fun h => absurd rfl h.1)⟩
                have HB2 := HB3
                clear HB3 HUD
                have hj0 : (0 : Int) ≤ j := by omega
                have hjn0 : (j : Int) < (n : Int) := by have := HJ.out; omega
                have HJW2 : Hid (IntKind.i64.wrap (j : Int) = j) := Lib.hid (by rw [IntKind.wrap_i64]; have := HSM.out; omega)
                obtain ⟨x, hx⟩ : ∃ x, T.g T.st ((j : Int) + 1) = x := ⟨_, rfl⟩
                obtain ⟨y, hy⟩ : ∃ y, U.g U.st ((j : Int) + 1) = y := ⟨_, rfl⟩
                obtain ⟨tp, htp⟩ : ∃ x, T.g T.top ((j : Int) + 1) = x := ⟨_, rfl⟩
                obtain ⟨tq, htq⟩ : ∃ y, U.g U.top ((j : Int) + 1) = y := ⟨_, rfl⟩
                obtain ⟨na, hna⟩ : ∃ x, T.numI ((j : Int) + 1) = x := ⟨_, rfl⟩
                obtain ⟨nb, hnb⟩ : ∃ y, U.numI ((j : Int) + 1) = y := ⟨_, rfl⟩
                obtain ⟨ca, hca⟩ : ∃ x, T.cnt ((j : Int) + 1) = x := ⟨_, rfl⟩
                obtain ⟨cb, hcb⟩ : ∃ y, U.cnt ((j : Int) + 1) = y := ⟨_, rfl⟩
                have hfa := back_facts HOK.out HNUM.out false (q : Int) HVE.out (U := U) (by simpa using HUE.out) (k := j + 1) (by omega) (by have := HJ.out; have := HN9.out; omega)
                rw [show ((j + 1 : Nat) : Int) = (j : Int) + 1 by omega, Int.toNat_natCast, HPQ.out, hx, hy, htp, htq, hna, hnb, hca, hcb, HLA.out] at hfa
                obtain ⟨bw, bn, ebw, ebn, hrd⟩ := two_atK HWAS.out HNOW.out HB2.out HJ.out HJ.out hx hy hna hnb htp htq hca hcb
                subst ebw
                subst ebn
                have HRD := Lib.hid hrd
                have HFA := Lib.hid hfa
                clear hrd hx hy htp htq hna hnb hca hcb hfa
                go_upto_region 27 with (fail)
                refine RX.region_held 14 (fun W => Below wr.heap.size wr W) mixed (by rfl) ?_
                refine wpAnyH_take (i := 0) (oi := _) (v := .slice (some ⟨bw, 0, none⟩) n cw) rfl (by kernel_rfl) (by kernel_rfl) (by kernel_rfl) (fun _ _ _ h => h) (Or.inl ⟨by rfl, fun w' hw' => ?_⟩) (below_drw _) ?_
                · go_simp
                  try first | with_reducible rfl | simp
                refine wpAnyH_take (i := 1) (oi := _) (v := .int .i64 ((j : Int) + 1)) rfl (by kernel_rfl) (by kernel_rfl) (by kernel_rfl) (fun _ _ _ h => h) (Or.inl ⟨by rfl, fun w' hw' => ?_⟩) (below_drw _) ?_
                · go_simp
                  try first | with_reducible rfl | simp
                refine wpAnyH_take (i := 2) (oi := _) (v := .int .i64 (j : Int)) rfl (by kernel_rfl) (by kernel_rfl) (by kernel_rfl) (fun _ _ _ h => h) (Or.inl ⟨by rfl, fun w' hw' => ?_⟩) (below_drw _) ?_
                · have hjw2 : IntKind.i64.wrap (j : Int) = j := HJW2.out
                  go_simp
                  try first | with_reducible rfl | simp
                refine wpAnyH_take (i := 3) (oi := _) (v := .pointer (some ⟨bw, j * 4, none⟩)) rfl (by kernel_rfl) (by kernel_rfl) (by kernel_rfl) (fun _ _ _ h => h) (Or.inl ⟨by rfl, fun w' hw' => ?_⟩) (below_drw _) ?_
                · go_simp
                  try first | with_reducible rfl | simp
                refine wpAnyH_take (i := 4) (oi := _) (v := seenV x tp na ca) rfl (by kernel_rfl) (by kernel_rfl) (by kernel_rfl) (fun _ _ _ h => h) (Or.inl ⟨by rfl, fun w' hw' => ?_⟩) (below_drw _) ?_
                · obtain ⟨⟨e0, e1, e2, e3, e4⟩, f0, f1, f2, f3, f4⟩ := HRD.out w' hw'
                  unfold seenV
                  go_simp
                  try first | with_reducible rfl | simp
                refine wpAnyH_take (i := 5) (oi := _) (v := .slice (some ⟨bn, 0, none⟩) n cn) rfl (by kernel_rfl) (by kernel_rfl) (by kernel_rfl) (fun _ _ _ h => h) (Or.inl ⟨by rfl, fun w' hw' => ?_⟩) (below_drw _) ?_
                · go_simp
                  try first | with_reducible rfl | simp
                refine wpAnyH_take (i := 6) (oi := _) (v := .int .i64 ((j : Int) + 1)) rfl (by kernel_rfl) (by kernel_rfl) (by kernel_rfl) (fun _ _ _ h => h) (Or.inl ⟨by rfl, fun w' hw' => ?_⟩) (below_drw _) ?_
                · go_simp
                  try first | with_reducible rfl | simp
                refine wpAnyH_take (i := 7) (oi := _) (v := .int .i64 (j : Int)) rfl (by kernel_rfl) (by kernel_rfl) (by kernel_rfl) (fun _ _ _ h => h) (Or.inl ⟨by rfl, fun w' hw' => ?_⟩) (below_drw _) ?_
                · have hjw2 : IntKind.i64.wrap (j : Int) = j := HJW2.out
                  go_simp
                  try first | with_reducible rfl | simp
                refine wpAnyH_take (i := 8) (oi := _) (v := .pointer (some ⟨bn, j * 4, none⟩)) rfl (by kernel_rfl) (by kernel_rfl) (by kernel_rfl) (fun _ _ _ h => h) (Or.inl ⟨by rfl, fun w' hw' => ?_⟩) (below_drw _) ?_
                · go_simp
                  try first | with_reducible rfl | simp
                refine wpAnyH_take (i := 9) (oi := _) (v := seenV y tq nb cb) rfl (by kernel_rfl) (by kernel_rfl) (by kernel_rfl) (fun _ _ _ h => h) (Or.inl ⟨by rfl, fun w' hw' => ?_⟩) (below_drw _) ?_
                · obtain ⟨⟨e0, e1, e2, e3, e4⟩, f0, f1, f2, f3, f4⟩ := HRD.out w' hw'
                  unfold seenV
                  go_simp
                  try first | with_reducible rfl | simp
                refine RX.anyH_two (fuel := 0) (i1 := 10) (i2 := 11) (j1 := 12) (j2 := 13) (t1 := 18) (t2 := 19) (e := 47) (zs := seenZ) (c1 := seenC x tp na ca) (c2 := seenC y tq nb cb) (by rfl) (by rfl) (by rfl) (by rfl) (by rfl) (by rfl) (by rfl) (by rfl) (by rfl) (by rfl) (by rfl) (by rfl) (by decide) (by decide) (by kernel_rfl) (by kernel_rfl) (by kernel_rfl) (by kernel_rfl) (by kernel_rfl) (by kernel_rfl) (alloc_seen (by rfl)) (alloc_seen (by rfl)) (fun g g' => fills_seen (p := .tmp 18) (x := .tmp 99) (by rfl) _ _ _ _ _ _ (by kernel_rfl) (by kernel_rfl)) (fun g g' => fills_seen (p := .tmp 19) (x := .tmp 104) (by rfl) _ _ _ _ _ _ (by kernel_rfl) (by kernel_rfl)) (fun w' hb => below_tr (below_drw _) hb) (fun b1 b2 v1 hne h1 h2 l1 l2 hb => ?_)
                have HV1 := Lib.hid (below_tr (below_drw _) hb)
                have HL1 := Lib.hid l1
                have HL2 := Lib.hid l2
                clear hne h1 h2 hb l1 l2
                simp only [Act.put, List.setIfInBounds_toArray]
                unfold RX.pt
                unfold seenV
                clear HRD
                have hfa := HFA.out
                clear HFA
                cases u with
                | false =>
                  have hnu : ¬ Und T.par q (j + 1) := fun h => by have := HUU.out.2 h; cases this
                  rcases hfa with ⟨_, g1, g2, g3, g4⟩ | ⟨h, _⟩ | ⟨h, _⟩
                  · subst g1
                    subst g2
                    subst g3
                    subst g4
                    clear hnu
                    have x0 := HL1.out.cell (o := 0) rfl
                    have x1 := HL1.out.cell (o := 1) rfl
                    have x2 := HL1.out.cell (o := 2) rfl
                    have x3 := HL1.out.cell (o := 3) rfl
                    have y0 := HL2.out.cell (o := 0) rfl
                    have y1 := HL2.out.cell (o := 1) rfl
                    have y2 := HL2.out.cell (o := 2) rfl
                    have y3 := HL2.out.cell (o := 3) rfl
                    have xl := HL1.out.lt
                    have yl := HL2.out.lt
                    have hne := fun W => neq_seen y tq nb cb W
                    have HB5 := Lib.hid (below_tr HB2.out HV1.out)
                    clear HV1 HL1 HL2
                    go_wp2_with fail
                    go_roundg (n - (j + 1))
                    case measure => have := HJG.out; have := HJ.out; omega
                    case rel => exact ⟨j + 1, by have hn80 := HSM.out; rw [show wrap64 ((j : Int) + 1 + 1) = (j : Int) + 1 + 1 from wr0 (by omega)]; exact congrArg (Value.int .i64) (by omega), by omega, Nat.le_refl _, HB5⟩
                  · exact absurd h hnu
                  · exact absurd h hnu
                | true =>
                  have hu1 := HUU.out.1 rfl
                  rcases hfa with ⟨h, _⟩ | ⟨_, _, g1, g2, g3⟩ | ⟨_, h, _⟩
                  · exact absurd hu1 h
                  · subst g1
                    subst g2
                    subst g3
                    clear hu1
                    have x0 := HL1.out.cell (o := 0) rfl
                    have x1 := HL1.out.cell (o := 1) rfl
                    have x2 := HL1.out.cell (o := 2) rfl
                    have x3 := HL1.out.cell (o := 3) rfl
                    have y0 := HL2.out.cell (o := 0) rfl
                    have y1 := HL2.out.cell (o := 1) rfl
                    have y2 := HL2.out.cell (o := 2) rfl
                    have y3 := HL2.out.cell (o := 3) rfl
                    have xl := HL1.out.lt
                    have yl := HL2.out.lt
                    have HB5 := Lib.hid (below_tr HB2.out HV1.out)
                    clear HV1 HL1 HL2
                    go_wp2_with fail
                    go_roundg (n - (j + 1))
                    case measure => have := HJG.out; have := HJ.out; omega
                    case rel => exact ⟨j + 1, by have hn80 := HSM.out; rw [show wrap64 ((j : Int) + 1 + 1) = (j : Int) + 1 + 1 from wr0 (by omega)]; exact congrArg (Value.int .i64) (by omega), by omega, Nat.le_refl _, HB5⟩
                  · cases h
              · have HNN : Hid (1 ≤ nn ∧ nn ≤ T.n) := Lib.hid (by have := HN9.out; omega)
                obtain ⟨pp, hpp⟩ : ∃ pp, T.par nn = pp := ⟨_, rfl⟩
                have hpl := HOK.out.par_lt nn HNN.out.1 HNN.out.2
                obtain ⟨p0, p1⟩ := par_at (HT6.out.below HB3.out) HPM.out HNN.out.1 HNN.out.2 wr (Below.refl _ _)
                rw [hpp] at hpl p1
                have HPP := Lib.hid hpp
                have HPL := Lib.hid hpl
                have hnz : ¬ (nn : Int) = 0 := by omega
                have hnm : (nn : Int) < (m : Int) := by have := HMN1.out; omega
                have hn00 : (0 : Int) ≤ nn := by omega
                clear hpp hpl
                cases u with
                | true =>
                  go_wp2_with fail
                  go_roundg pp
                  case measure => have := HPL.out; omega
                  case rel => exact ⟨true, pp, rfl, rfl, by have := HPL.out; omega, Nat.le_refl _, Lib.hid ⟨fun _ => HUD.out.1 (by simp), fun _ => by simp⟩, HB3⟩
                | false =>
                  by_cases hnq : nn = q
                  · have HNE : Hid (Und T.par q (j + 1)) := Lib.hid (HUD.out.1 (.inr ⟨hz0, by rw [hnq]; exact .self⟩))
                    subst hnq
                    go_wp2_with fail
                    go_roundg pp
                    case measure => have := HPL.out; omega
                    case rel => exact ⟨true, pp, rfl, rfl, by have := HPL.out; omega, Nat.le_refl _, Lib.hid ⟨fun _ => HNE.out, fun _ => .inl rfl⟩, HB3⟩
                  · have hnqz : ¬ (nn : Int) = (q : Int) := by omega
                    have hnqb : ((nn : Int) == (q : Int)) = false := by simpa using hnqz
                    have HD2 : Hid ((false = true ∨ (pp ≠ 0 ∧ Und T.par q pp)) ↔ Und T.par q (j + 1)) := Lib.hid ⟨fun h => HUD.out.1 (.inr ⟨hz0, by
                      rcases h with h | h
                      · cases h
                      · exact .up (by rw [HPP.out]; exact h.1) (by rw [HPP.out]; exact h.2)⟩), fun h => .inr (by
                      rcases HUD.out.2 h with h | h
                      · cases h
                      · rcases h.2.cases' with e | e
                        · exact absurd e hnq
                        · rw [HPP.out] at e; exact e)⟩
                    clear hnq
                    go_wp2_with fail
                    go_roundg pp
                    case measure => have := HPL.out; omega
                    case rel => exact ⟨false, pp, rfl, rfl, by have := HPL.out; omega, Nat.le_refl _, HD2, HB3⟩
          · obtain rfl : j = n := by omega
            have hltz2 : ¬ (j : Int) + 1 ≤ (j : Int) := by omega
            have HBL := Lib.hid (below_tr HT6.out.one.bel HB2.out)
            clear hlt2
            go_wp2_with fail
            go_ret
            exact ⟨rfl, HBL.out⟩
      · have hvb : (ve != 0) = true := by simpa using hv0
        have HBL := Lib.hid HT6.out.one.bel
        clear HT6 HWAS HNOW
        go_wp2_with fail
        go_ret
        exact ⟨rfl, HBL.out⟩

theorem back_law (a0 : Option Addr) (c0 n0 : Nat) (l0 : List Stp) (hn0 : l0.length = n0) (id : Int) (hid : I64 id) (com : Bool) (w : World) (hs0 : SlSt w a0 c0 l0) :
    Calls Try.prog 8 #[.slice a0 n0 c0, .int .i64 id, .bool com] w fun e w' => e = .returned (.bool true) ∧ Below w.heap.size w w' := by
  by_cases hz : 80 < n0
  · exact back_large a0 c0 n0 l0 hn0 id hid com w hs0 hz
  · cases com with
    | true => exact back_com a0 c0 n0 l0 hn0 id hid w hs0 (by omega)
    | false => exact back_abo a0 c0 n0 l0 hn0 id hid w hs0 (by omega)

end Go.Proofs.Ytebkcejamleojaa
