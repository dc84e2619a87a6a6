/-
  The law HeapRows, walked.
-/
import Derived.Test.YtkedkeelbbfmkaaHVis
import Derived.Test.YtkedkeelbbfmkaaHMore2
import Derived.Test.YtkedkeelbbfmkaaHLarge
namespace Go.Proofs.Ytkedkeelbbfmkaa
open Go.RowKit
set_option linter.unusedVariables false

theorem drewN_belR (w : World) (n : Nat) : Below w.heap.size w (w.drewN n) := ⟨rfl, rfl, rfl, Nat.le_refl _, fun _ _ => rfl⟩

/-- A row of numbers that lies apart from block mb. -/
structure Rd (mb : Nat) (W : World) (s : Value) (l : List Int) : Prop where
  row : RowI W s l
  ne : ∀ k, s.ownBlock = some k → k ≠ mb
theorem Rd.below {mb : Nat} {W W' : World} {s : Value} {l : List Int} (h : Rd mb W s l) (hb : Below W.heap.size W W') : Rd mb W' s l := ⟨RowF.below h.row hb, h.ne⟩
theorem Rd.wrote {mb : Nat} {W W' : World} {s : Value} {l : List Int} (h : Rd mb W s l) (ht : Touch (fun k => k = mb) W W') : Rd mb W' s l := ⟨RowF.stay h.row (ht.stay (G := fun k => k ≠ mb) (fun k hk e => hk e)) h.ne, h.ne⟩
theorem Rd.at {mb : Nat} {W : World} {a : Option Addr} {n c i : Nat} {l : List Int} {x : Int} (h : Rd mb W (.slice a n c) l) (hx : l[i]? = some x) : ∃ b, a = some ⟨b, 0, none⟩ ∧ b < W.heap.size ∧ W.cell? ⟨b, i, none⟩ = some (.int .i64 x) := by
  obtain ⟨hi, e⟩ := List.getElem?_eq_some_iff.1 hx
  obtain ⟨b, c', e1, -, -, h3, h4, -⟩ := RowI.at h.row hi
  simp only [Value.slice.injEq] at e1
  obtain ⟨rfl, -, -⟩ := e1
  refine ⟨b, rfl, h3, ?_⟩
  rw [h4 i hi]
  simp [hi, e]
theorem Rd.cell {mb : Nat} {W : World} {b n c i : Nat} {l : List Int} {x : Int} (h : Rd mb W (.slice (some ⟨b, 0, none⟩) n c) l) (hx : l[i]? = some x) : b < W.heap.size ∧ W.cell? ⟨b, i, none⟩ = some (.int .i64 x) := by
  obtain ⟨b', e, h1, h2⟩ := h.at hx
  cases e
  exact ⟨h1, h2⟩
theorem get_int {l : List Int} {i : Nat} (h : i < l.length) : ∃ x, l[i]? = some x := ⟨l[i], by simp [h]⟩

/-- The heap, the map, and the tables' row. -/
structure Bs (w W : World) (h mb : Nat) (A : Ab) (z : Nat) (f : Int → Option Value) (V : List Nat) : Prop where
  one : One (fun k => k = mb) w W h A z
  map : MapF W mb V.length f
theorem Bs.below {w W W' : World} {h mb z : Nat} {A : Ab} {f : Int → Option Value} {V : List Nat} (H : Bs w W h mb A z f V) (hb : Below W.heap.size W W') : Bs w W' h mb A z f V := ⟨H.one.below hb, H.map.below hb⟩

set_option maxRecDepth 100000 in
set_option maxHeartbeats 8000000 in
theorem rows_law (a0 : Option Addr) (c0 n0 : Nat) (l0 : List Stp) (hn0 : l0.length = n0) (w : World) (hs0 : SlSt w a0 c0 l0) :
    Calls Try.prog 7 #[.slice a0 n0 c0] w fun e w' => e = .returned (.bool true) ∧ Below w.heap.size w w' := by
  have HS := Lib.hid hs0
  have HN := Lib.hid hn0
  clear hs0 hn0
  go_enter Try.func7, Try.ntmps7
  have hcon := works_is w
  go_wp2_with fail
  refine (show Calls Try.prog _ _ _ _ from hcon).mono ?_
  rintro e w1 ⟨rfl, hb⟩
  have HB1 := Lib.hid hb
  clear hcon hb
  have hcon := large_is w1 a0 c0 n0 l0 HN.out (HS.out.below HB1.out)
  go_wp2_with fail
  refine (show Calls Try.prog _ _ _ _ from hcon).mono ?_
  rintro e w1b ⟨v, rfl, hv, rfl⟩
  clear hcon 
  rcases hv with rfl | ⟨rfl, hf⟩
  · have hcon := works_is w1b
    go_wp2_with fail
    refine (show Calls Try.prog _ _ _ _ from hcon).mono ?_
    rintro e w2 ⟨rfl, hb⟩
    have HB2 := Lib.hid (below_tr HB1.out hb)
    clear hcon hb
    go_wp2_with fail
    go_ret
    exact ⟨rfl, HB2.out⟩
  · have HF := Lib.hid hf
    clear hf
    have hcon := one_new (X := fun _ => False) (w0 := w) HB1.out (fun _ h => h.elim)
    go_wp2_with fail
    refine (show Calls Try.prog _ _ _ _ from hcon).mono ?_
    rintro e w2 ⟨h, rfl, ho⟩
    have HO0 := Lib.hid ho
    clear hcon ho HB1
    have h120 : n0 ≤ 120 := by have e1 := HF.out.1; have e2 := HN.out; omega
    go_wp2_with fail
    go_loopg [4] n0 (fun gg s4 wr => ∃ (A : Ab) (z i : Nat), s4 = .int .i64 i ∧ i ≤ n0 ∧ n0 - i ≤ gg ∧ Hid (z ≤ 3 * i) ∧ Hid (One (fun _ => False) w wr h A z))
    case atStart => exact ⟨Ab.new, 0, 0, rfl, Nat.zero_le _, by omega, Lib.hid (Nat.le_refl _), HO0⟩
    case round =>
      obtain ⟨A, z, i, rfl, hin, hgg, HI, HO⟩ := hrel
      clear HO0
      by_cases hlt : i < n0
      · have hltz : (i : Int) < (n0 : Int) := by omega
        have HL := Lib.hid (And.intro hlt (And.intro hin hgg))
        have HZ : Hid (z ≤ 400) := Lib.hid (by have e1 := HI.out; omega)
        clear hgg hin
        obtain ⟨st, sb, so, ra, rc, rn, hst, hmem, hrn, rfl, hrw, hwf, hbl, q0, q1, q2, q3, q4, q5, q6, q7, q8, q9, q10⟩ := step_at HS.out HO.out.bel HN.out hlt
        have HST := Lib.hid (And.intro hst (And.intro hrn (And.intro hwf (HF.out.2 st hmem))))
        have hcon := one_do HO.out st ra rc rn hrn (by have := HF.out.2 st hmem; omega) hwf hrw (by have := HZ.out; omega)
        unfold stpV at hcon
        clear hst hmem hrn hwf hrw
        obtain ⟨A', hA'⟩ : ∃ A', A.doA st = A' := ⟨_, rfl⟩
        rw [hA'] at hcon
        clear hA'
        go_wp2_with fail
        refine (show Calls Try.prog _ _ _ _ from hcon).mono ?_
        rintro e w4 ⟨rfl, ho, -⟩
        have HO2 := Lib.hid ho
        clear hcon ho hbl q0 q1 q2 q3 q4 q5 q6 q7 q8 q9 q10 hlt HO
        go_wp2_with fail
        go_roundg (n0 - (i + 1))
        case measure => have := HL.out; omega
        case rel => exact ⟨A', z + 3, i + 1, by go_num, by have := HL.out; omega, Nat.le_refl _, Lib.hid (by have := HI.out; omega), HO2⟩
      · have hltz : ¬ (i : Int) < (n0 : Int) := by omega
        have HZ : Hid (z ≤ 400) := Lib.hid (by have e1 := HI.out; omega)
        clear HI hgg hin hlt
        obtain ⟨mb, hmb⟩ : ∃ mb, wr.heap.size = mb := ⟨_, rfl⟩
        obtain ⟨w3, hw3⟩ : ∃ w3, wr.alloc (.map #[] 0) = w3 := ⟨_, rfl⟩
        have hm0 := MapF.new wr
        have hb3 := Below.allocs wr (.map #[] 0)
        rw [hmb, hw3] at hm0
        rw [hw3] at hb3
        have HO1 : Hid (One (fun k => k = mb) w w3 h A z) := Lib.hid (HO.out.foreign hb3 _ (fun k hk => ⟨.inr (by rw [hk, hmb]; exact Nat.le_refl _), by rw [hk]; exact hm0.lt⟩))
        have HM0 := Lib.hid hm0
        have HMB : Hid (w.heap.size ≤ mb) := Lib.hid (by rw [← hmb]; exact HO.out.bel.size)
        have HW3 := Lib.hid hw3
        have HG3 := Lib.hid hmb
        clear hmb hw3 hm0 hb3 HO
        have hmm := @run_makeMap Try.prog
        go_upto_region 9 with (fail)
        rw [HW3.out, HG3.out]
        clear HW3 HG3 hmm
        have hcon := one_tables HO1.out (by have := HZ.out; omega)
        go_wp2_with fail
        refine (show Calls Try.prog _ _ _ _ from hcon).mono ?_
        rintro e w5 ⟨tS, rfl, tabs, hr, ht, ho, h1, hb5⟩
        obtain ⟨ta, tc, rfl, -, -⟩ := hr.form
        obtain ⟨nt, hnt⟩ : ∃ nt, tabs.length = nt := ⟨_, rfl⟩
        rw [hnt] at hr ho ⊢
        have HNT := Lib.hid hnt
        have HTR := Lib.hid ht
        have HBS0 : Hid (Bs w w5 h mb A z (fun _ => none) []) := Lib.hid ⟨h1, HM0.out.below hb5⟩
        have HR0 := Lib.hid (Rd.mk (mb := mb) hr (fun k hk e => by have := ho k hk; have := HM0.out.lt; omega))
        have hnt9 : nt ≤ 400 := by have e1 := tabs_len ht; have e2 := h1.len; have e3 := HZ.out; omega
        clear hcon hr ht ho h1 hb5 hnt HO1 HM0
        go_wp2_with fail
        go_loopg [6, 8] nt (fun gg s6 s8 ws => ∃ (i : Nat) (V : List Nat) (f : Int → Option Value), s6 = .int .i64 V.length ∧ s8 = .int .i64 i ∧ i ≤ nt ∧ nt - i ≤ gg ∧ Hid (Bs w ws h mb A z f V) ∧ Hid (Met A (Q0 tabs i) V f) ∧ Hid (Rd mb ws (.slice ta nt tc) tabs))
        case atStart => exact ⟨0, [], _, rfl, rfl, Nat.zero_le _, by omega, HBS0, Lib.hid (Met.start A fun p _ => q0_start tabs p), HR0⟩
        case round =>
          obtain ⟨i, V, f, rfl, rfl, hi, hgg, HBS, HME, HR⟩ := hrel
          clear HBS0 HR0
          by_cases hlt : i < nt
          · have hltz : (i : Int) < (nt : Int) := by omega
            have HL := Lib.hid (And.intro hlt (And.intro hi hgg))
            obtain ⟨x, hx⟩ := get_int (l := tabs) (i := i) (by rw [HNT.out]; exact hlt)
            have HXI := Lib.hid hx
            obtain ⟨px, hpx, hpno⟩ := (HTR.out.2 x).1 (List.mem_of_getElem? hx)
            have HXW : Hid (I64 x) := Lib.hid (by rw [← hpno]; exact (HBS.out.one.ok.wf px hpx).1.no)
            obtain ⟨tb1, rfl, htb1, r1⟩ := HR.out.at hx
            have HPX := Lib.hid (And.intro hpx hpno)
            clear hx hi hgg hpx hpno
            have hcon := one_ids HBS.out.one x HXW.out (by have := HZ.out; omega)
            go_wp2_with fail
            refine (show Calls Try.prog _ _ _ _ from hcon).mono ?_
            rintro e w6 ⟨iS, rfl, ids, hr, hids, ho, -, hb6⟩
            obtain ⟨ia, ic, rfl, -, -⟩ := hr.form
            obtain ⟨ni, hni⟩ : ∃ ni, ids.length = ni := ⟨_, rfl⟩
            rw [hni] at hr ho ⊢
            have HNI := Lib.hid hni
            have HID := Lib.hid hids
            have HYW : Hid (∀ y ∈ ids, I64 y) := Lib.hid (fun y hy => by
              obtain ⟨p, hp, -, e⟩ := (hids.2 y).1 hy
              rw [← e]
              exact (HBS.out.one.ok.wf p hp).1.id)
            have HBS6 := Lib.hid (HBS.out.below hb6)
            have hni9 : ni ≤ 400 := by have e1 := ids_len hids; have e2 := HBS.out.one.len; have e3 := HZ.out; omega
            have HR6 := Lib.hid (And.intro (HR.out.below hb6) (Rd.mk (mb := mb) hr (fun k hk e => by have := ho k hk; have := HBS.out.map.lt; omega)))
            have hne : (ni == 0) = false := by
              have : px.2.id ∈ ids := (hids.2 _).2 ⟨px, HPX.out.1, HPX.out.2, rfl⟩
              rw [← hni, beq_eq_false_iff_ne]
              exact fun e => by rw [List.length_eq_zero_iff.1 e] at this; cases this
            have hni0 : ((ni : Int) == 0) = false := by rw [beq_eq_false_iff_ne] at hne ⊢; omega
            clear hcon hr hids ho hb6 hni HBS HR r1 htb1 hlt
            go_upto_region 15 with (fail)
            go_cut [68] (fun sx wx => sx = .bool false ∧ Hid (Below w6.heap.size w6 wx))
            case first =>
              obtain rfl | ⟨j, rfl⟩ : i = 0 ∨ ∃ j, i = j + 1 := by rcases i with _ | j <;> simp
              · go_quiet (fail)
                go_wp2_with fail
                go_meet
                exact ⟨rfl, Lib.hid (drewN_belR _ _)⟩
              · obtain ⟨x1, hx1⟩ := get_int (l := tabs) (i := j + 1) (by rw [HNT.out]; exact HL.out.1)
                obtain ⟨x0, hx0⟩ := get_int (l := tabs) (i := j) (by rw [HNT.out]; exact Nat.lt_of_succ_lt HL.out.1)
                have hlt01 : x0 < x1 := rise_prev HTR.out.1 hx1 hx0 (Nat.succ_pos j)
                obtain ⟨-, r1⟩ := HR6.out.1.cell hx1
                obtain ⟨-, r0⟩ := HR6.out.1.cell hx0
                have hle01 : ¬ x1 ≤ x0 := by omega
                have hgt0 : (0 : Int) < (j : Int) + 1 := by omega
                clear hx1 hx0 hlt01
                go_quiet (fail)
                go_wp2_with fail
                go_meet
                exact ⟨rfl, Lib.hid (drewN_belR _ _)⟩
            case rest =>
              obtain ⟨rfl, HBX⟩ := hcut
              have HBS2 := Lib.hid (HBS6.out.below HBX.out)
              have HR2 := Lib.hid (And.intro (HR6.out.1.below HBX.out) (HR6.out.2.below HBX.out))
              clear HBS6 HR6 HBX hne hni0
              go_wp2_with fail
              go_loopg [6, 10] ni (fun gg s6 s10 wt => ∃ (k : Nat) (V : List Nat) (f : Int → Option Value), s6 = .int .i64 V.length ∧ s10 = .int .i64 k ∧ k ≤ ni ∧ ni - k ≤ gg ∧ Hid (Bs w wt h mb A z f V) ∧ Hid (Met A (Q1 tabs i x ids k) V f) ∧ Hid (Rd mb wt (.slice (some ⟨tb1, 0, none⟩) nt tc) tabs ∧ Rd mb wt (.slice ia ni ic) ids))
              case atStart => exact ⟨0, V, f, rfl, rfl, Nat.zero_le _, by omega, HBS2, Lib.hid (HME.out.congr fun p hp => q1_start ..), HR2⟩
              case round =>
                obtain ⟨k, V, f, rfl, rfl, hk, hgg2, HBS, HME2, HR⟩ := hrel
                clear HBS2 HR2 HME
                by_cases hlt2 : k < ni
                · have hltz2 : (k : Int) < (ni : Int) := by omega
                  have HL2 := Lib.hid (And.intro hlt2 (And.intro hk hgg2))
                  obtain ⟨y, hy⟩ := get_int (l := ids) (i := k) (by rw [HNI.out]; exact hlt2)
                  have HYK := Lib.hid hy
                  have hwy : I64 y := HYW.out y (List.mem_of_getElem? hy)
                  obtain ⟨ib2, rfl, hib2, r2⟩ := HR.out.2.at hy
                  obtain ⟨htb1, r1⟩ := HR.out.1.cell HXI.out
                  clear hy hk hgg2
                  go_upto_region 20 with (fail)
                  have mixed : Try.prog.follows Departure.mixedOrders = true := by kernel_rfl
                  have hd := below_drw wr
                  have HBD := Lib.hid (HBS.out.below hd)
                  have HRD := Lib.hid (And.intro (HR.out.1.below hd) (HR.out.2.below hd))
                  have HS0 : Hid (wr.drew.cell? ⟨tb1, i, none⟩ = some (.int .i64 x) ∧ wr.drew.cell? ⟨ib2, k, none⟩ = some (.int .i64 y)) := Lib.hid ⟨(HRD.out.1.cell HXI.out).2, (HRD.out.2.cell HYK.out).2⟩
                  clear HBS HR r1 r2 hib2 htb1 hlt2 hd
                  refine RX.wp_region_lastH 10 (fun W => W.cell? ⟨tb1, i, none⟩ = some (.int .i64 x) ∧ W.cell? ⟨ib2, k, none⟩ = some (.int .i64 y)) mixed (by kernel_rfl) ?_
                  simp only [List.take_succ_cons, List.take_zero, List.drop_succ_cons, List.drop_zero]
                  refine wpAnyH_take (i := 0) (oi := _) (v := .pointer (some ⟨h, 0, none⟩)) rfl (by kernel_rfl) (by kernel_rfl) (by kernel_rfl) (fun _ _ _ h => h) (Or.inl ⟨by rfl, fun w' hw' => ?_⟩) (HS0.out) ?_
                  · obtain ⟨j0, j1⟩ := hw'
                    go_simp
                    try first | with_reducible rfl | simp
                  refine wpAnyH_take (i := 1) (oi := _) (v := .slice (some ⟨tb1, 0, none⟩) nt tc) rfl (by kernel_rfl) (by kernel_rfl) (by kernel_rfl) (fun _ _ _ h => h) (Or.inl ⟨by rfl, fun w' hw' => ?_⟩) (HS0.out) ?_
                  · obtain ⟨j0, j1⟩ := hw'
                    go_simp
                    try first | with_reducible rfl | simp
                  refine wpAnyH_take (i := 2) (oi := _) (v := .int .i64 i) rfl (by kernel_rfl) (by kernel_rfl) (by kernel_rfl) (fun _ _ _ h => h) (Or.inl ⟨by rfl, fun w' hw' => ?_⟩) (HS0.out) ?_
                  · obtain ⟨j0, j1⟩ := hw'
                    go_simp
                    try first | with_reducible rfl | simp
                  refine wpAnyH_take (i := 3) (oi := _) (v := .pointer (some ⟨tb1, i, none⟩)) rfl (by kernel_rfl) (by kernel_rfl) (by kernel_rfl) (fun _ _ _ h => h) (Or.inl ⟨by rfl, fun w' hw' => ?_⟩) (HS0.out) ?_
                  · obtain ⟨j0, j1⟩ := hw'
                    go_simp
                    try first | with_reducible rfl | simp
                  refine wpAnyH_take (i := 4) (oi := _) (v := .int .i64 x) rfl (by kernel_rfl) (by kernel_rfl) (by kernel_rfl) (fun _ _ _ h => h) (Or.inl ⟨by rfl, fun w' hw' => ?_⟩) (HS0.out) ?_
                  · obtain ⟨j0, j1⟩ := hw'
                    go_simp
                    try first | with_reducible rfl | simp
                  refine wpAnyH_take (i := 5) (oi := _) (v := .slice (some ⟨ib2, 0, none⟩) ni ic) rfl (by kernel_rfl) (by kernel_rfl) (by kernel_rfl) (fun _ _ _ h => h) (Or.inl ⟨by rfl, fun w' hw' => ?_⟩) (HS0.out) ?_
                  · obtain ⟨j0, j1⟩ := hw'
                    go_simp
                    try first | with_reducible rfl | simp
                  refine wpAnyH_take (i := 6) (oi := _) (v := .int .i64 k) rfl (by kernel_rfl) (by kernel_rfl) (by kernel_rfl) (fun _ _ _ h => h) (Or.inl ⟨by rfl, fun w' hw' => ?_⟩) (HS0.out) ?_
                  · obtain ⟨j0, j1⟩ := hw'
                    go_simp
                    try first | with_reducible rfl | simp
                  refine wpAnyH_take (i := 7) (oi := _) (v := .pointer (some ⟨ib2, k, none⟩)) rfl (by kernel_rfl) (by kernel_rfl) (by kernel_rfl) (fun _ _ _ h => h) (Or.inl ⟨by rfl, fun w' hw' => ?_⟩) (HS0.out) ?_
                  · obtain ⟨j0, j1⟩ := hw'
                    go_simp
                    try first | with_reducible rfl | simp
                  refine wpAnyH_take (i := 8) (oi := _) (v := .int .i64 y) rfl (by kernel_rfl) (by kernel_rfl) (by kernel_rfl) (fun _ _ _ h => h) (Or.inl ⟨by rfl, fun w' hw' => ?_⟩) (HS0.out) ?_
                  · obtain ⟨j0, j1⟩ := hw'
                    go_simp
                    try first | with_reducible rfl | simp
                  refine RX.anyH_call (i := 9) (f := 17) (args := #[.pointer (some ⟨h, 0, none⟩), .int .i64 x, .int .i64 y]) (by kernel_rfl) rfl (by rfl) (by go_simp) ?_
                  refine (show Calls Try.prog _ _ _ _ from one_slots (l := natI (A.slots x y)) HBD.out.one x y HXW.out hwy (by have := HZ.out; omega) rfl).mono ?_
                  rintro e w4 ⟨sS, rfl, hr, ho, -, hb4⟩
                  obtain ⟨sa, sc, rfl, -, -⟩ := hr.form
                  obtain ⟨ns, hns⟩ : ∃ ns, (A.slots x y).length = ns := ⟨_, rfl⟩
                  rw [natI_len, hns] at hr ho ⊢
                  have HNS := Lib.hid hns
                  have HBS4 := Lib.hid (HBD.out.below hb4)
                  have hns9 : ns ≤ 400 := by have e1 := slots_len A x y; have e2 := HBD.out.one.len; have e3 := HZ.out; omega
                  have HR4 := Lib.hid (And.intro (HRD.out.1.below hb4) (And.intro (HRD.out.2.below hb4) (Rd.mk (mb := mb) hr (fun k hk e => by have := ho k hk; have := HBD.out.map.lt; omega))))
                  have hne : (ns == 0) = false := by
                    have : A.slots x y ≠ [] := slots_ne.2 ((HID.out.2 y).1 (List.mem_of_getElem? HYK.out))
                    rw [← hns, beq_eq_false_iff_ne]
                    exact fun e => this (List.length_eq_zero_iff.1 e)
                  have hns0 : ((ns : Int) == 0) = false := by rw [beq_eq_false_iff_ne] at hne ⊢; omega
                  have HS4 : Hid (w4.cell? ⟨tb1, i, none⟩ = some (.int .i64 x) ∧ w4.cell? ⟨ib2, k, none⟩ = some (.int .i64 y)) := Lib.hid ⟨(HR4.out.1.cell HXI.out).2, (HR4.out.2.1.cell HYK.out).2⟩
                  clear hr ho hb4 hns HBD HRD hwy HS0
                  refine ⟨_, rfl, HS4.out, ?_⟩
                  refine wpAnyH_done (by kernel_rfl) ?_ _
                  unfold RX.lastQ
                  go_upto_region 21 with (fail)
                  go_cut [103] (fun sx wx => sx = .bool false ∧ Hid (Below w4.heap.size w4 wx))
                  case first =>
                    obtain rfl | ⟨j, rfl⟩ : k = 0 ∨ ∃ j, k = j + 1 := by rcases k with _ | j <;> simp
                    · go_quiet (fail)
                      go_wp2_with fail
                      go_meet
                      exact ⟨rfl, Lib.hid (drewN_belR _ _)⟩
                    · obtain ⟨x1, hx1⟩ := get_int (l := ids) (i := j + 1) (by rw [HNI.out]; exact HL2.out.1)
                      obtain ⟨x0, hx0⟩ := get_int (l := ids) (i := j) (by rw [HNI.out]; exact Nat.lt_of_succ_lt HL2.out.1)
                      have hlt01 : x0 < x1 := rise_prev HID.out.1 hx1 hx0 (Nat.succ_pos j)
                      obtain ⟨-, r1⟩ := HR4.out.2.1.cell hx1
                      obtain ⟨-, r0⟩ := HR4.out.2.1.cell hx0
                      have hle01 : ¬ x1 ≤ x0 := by omega
                      have hgt0 : (0 : Int) < (j : Int) + 1 := by omega
                      clear hx1 hx0 hlt01
                      go_quiet (fail)
                      go_wp2_with fail
                      go_meet
                      exact ⟨rfl, Lib.hid (drewN_belR _ _)⟩
                  case rest =>
                    obtain ⟨rfl, HBX⟩ := hcut
                    have HBS3 := Lib.hid (HBS4.out.below HBX.out)
                    have HR3 := Lib.hid (And.intro (HR4.out.1.below HBX.out) (And.intro (HR4.out.2.1.below HBX.out) (HR4.out.2.2.below HBX.out)))
                    clear HBS4 HR4 HBX hne hns0
                    go_wp2_with fail
                    go_loopg [6, 12] ns (fun gg s6 s12 wv => ∃ (n : Nat) (V : List Nat) (f : Int → Option Value), s6 = .int .i64 V.length ∧ s12 = .int .i64 n ∧ n ≤ ns ∧ ns - n ≤ gg ∧ Hid (Bs w wv h mb A z f V) ∧ Hid (Met A (Q2 tabs i x ids k y (A.slots x y) n) V f) ∧ Hid (Rd mb wv (.slice (some ⟨tb1, 0, none⟩) nt tc) tabs ∧ Rd mb wv (.slice (some ⟨ib2, 0, none⟩) ni ic) ids ∧ Rd mb wv (.slice sa ns sc) (natI (A.slots x y))))
                    case atStart => exact ⟨0, V, f, rfl, rfl, Nat.zero_le _, by omega, HBS3, Lib.hid (HME2.out.congr fun p hp => q2_start ..), HR3⟩
                    case round =>
                      obtain ⟨n, V, f, rfl, rfl, hn, hgg3, HBS, HME, HR⟩ := hrel
                      clear HBS3 HR3 HME2
                      by_cases hlt3 : n < ns
                      · have hltz3 : (n : Int) < (ns : Int) := by omega
                        have HL3 := Lib.hid (And.intro hlt3 (And.intro hn hgg3))
                        obtain ⟨sv, hsv⟩ : ∃ sv, (A.slots x y)[n]? = some sv := ⟨(A.slots x y)[n]'(by rw [HNS.out]; exact hlt3), by simp [HNS.out, hlt3]⟩
                        obtain ⟨tv, htm, htn, hti⟩ := slot_tup hsv
                        obtain ⟨hat1, hat2⟩ := atT_is HBS.out.one.ok htm
                        have hsvI : (natI (A.slots x y))[n]? = some (sv : Int) := by unfold natI; rw [List.getElem?_map, hsv]; rfl
                        obtain ⟨sb3, rfl, hsb3, r3⟩ := HR.out.2.2.at hsvI
                        obtain ⟨htb1, r1⟩ := HR.out.1.cell HXI.out
                        obtain ⟨hib2, r2⟩ := HR.out.2.1.cell HYK.out
                        have hq := q2_new HBS.out.one.ok HTR.out.1 HID.out.1 HXI.out HYK.out hsv htn hti
                        have HQ := Lib.hid (And.intro htm (And.intro hq (And.intro hsv (And.intro htn hti))))
                        have hVl : V.length ≤ 400 := by have e1 := HME.out.len; have e2 := HBS.out.one.len; have e3 := HZ.out; omega
                        have HVL := Lib.hid hVl
                        obtain ⟨vn, hvn⟩ : ∃ vn, V.length = vn := ⟨_, rfl⟩
                        have HVN := Lib.hid hvn
                        rw [hvn] at hVl
                        rw [hvn]
                        obtain rfl := htn
                        obtain rfl := hti
                        clear hlt3 hn hgg3 hsv hq hvn
                        have hcon := one_at (t := tv) (b := true) HBS.out.one (sv : Int) (by have := HZ.out; omega) hat1 hat2
                        go_wp2_with fail
                        refine (show Calls Try.prog _ _ _ _ from hcon).mono ?_
                        rintro e w5 ⟨ss, rfl, hr, -, -, hb5⟩
                        obtain ⟨va, vc, rfl, -, -⟩ := hr.form
                        unfold tupV
                        clear hcon hr htm hat1 hat2
                        obtain ⟨g, hg⟩ : ∃ g, w5.heap.size = g := ⟨_, rfl⟩
                        obtain ⟨w6, hw6⟩ : ∃ w6, w5.alloc (.cells (tupC tv (.slice va tv.row.length vc)).toArray 28) = w6 := ⟨_, rfl⟩
                        have l6 := Lit.new w5 28 (tupC tv (.slice va tv.row.length vc))
                        have b6 := Below.allocs w5 (.cells (tupC tv (.slice va tv.row.length vc)).toArray 28)
                        rw [hw6] at l6 b6
                        rw [hg] at l6
                        have hb6 := below_tr hb5 b6
                        have HGN : Hid (g ≠ mb) := Lib.hid (by have e1 := HBS.out.map.lt; have e2 := hb5.size; omega)
                        have HL6 := Lib.hid l6
                        have HSVI := Lib.hid hsvI
                        have HB6 := Lib.hid (HBS.out.below hb6)
                        have HM6 : Hid (MapF w6 mb vn f) := Lib.hid (by rw [← HVN.out]; exact HB6.out.map)
                        have HR6 := Lib.hid (And.intro (HR.out.1.below hb6) (And.intro (HR.out.2.1.below hb6) (HR.out.2.2.below hb6)))
                        have c0 := l6.cell (o := 0) rfl
                        have c1 := l6.cell (o := 1) rfl
                        have hgl := l6.lt
                        have p3 : w6.cell? ⟨sb3, n, none⟩ = some (.int .i64 (sv : Int)) := by rw [hb6.cell (p := ⟨sb3, n, none⟩) hsb3]; exact r3
                        have p1 : w6.cell? ⟨tb1, i, none⟩ = some (.int .i64 tv.no) := by rw [hb6.cell (p := ⟨tb1, i, none⟩) htb1]; exact r1
                        have p2 : w6.cell? ⟨ib2, k, none⟩ = some (.int .i64 tv.id) := by rw [hb6.cell (p := ⟨ib2, k, none⟩) hib2]; exact r2
                        have HK : Hid (I64 (sv : Int)) := Lib.hid (by
                          have h1 := HB6.out.one
                          obtain ⟨F, ⟨M, L, -, h2, h3, -⟩, -⟩ := h1
                          have e1 := ((h3.tup sv tv).2 HQ.out.1).1
                          have e2 := h2.nz
                          have e3 := HZ.out
                          unfold I64
                          omega)
                        have hlk := HM6.out.look (t := 62) (z := .int .i64 0) Try.underlying62 (by kernel_rfl) HK.out
                        rw [HME.out.none HB6.out.one.ok HQ.out.1 HQ.out.2.1] at hlk
                        have hlk : (Instr.lookup 62 (.map (some mb)) (.int .i64 (sv : Int)) false).run Try.prog w6 = .ok (.int .i64 0) w6 := hlk
                        have HNN : Hid (vn < maxLen) := Lib.hid (by unfold maxLen; omega)
                        have HW6 := Lib.hid hw6
                        have HG6 := Lib.hid hg
                        unfold tupC at HW6
                        clear hsvI hw6 hg l6 b6 hb6 r1 r2 r3 hb5 hsb3 htb1 hib2 HBS HR
                        go_upto_region 27 with (fail)
                        rw [show w5.alloc _ = w6 from HW6.out, HG6.out]
                        clear HW6 HG6
                        go_wp2_with (first | (at_mapUpdate; refine put_f rfl _ _ _ 62 rfl 3 Try.underlying62 mb vn f rfl HM6.out HNN.out (sv : Int) HK.out rfl (.int .i64 1) rfl ?_; intro w7 hm7 hg7) | fail)
                        have ht7 : Touch (fun k => k = mb) w6 w7 := Touch.grown hg7 (fun k hk => (Option.some.inj hk).symm)
                        have HO7 := Lib.hid (HB6.out.one.wrote ht7 (fun k hk => ⟨hk, by rw [hk]; exact HMB.out⟩))
                        have hme := HME.out.step HB6.out.one.ok HQ.out.1 HQ.out.2.1 (q2_step HB6.out.one.ok HQ.out.1 HQ.out.2.2.1 rfl rfl)
                        have HME7 := Lib.hid hme
                        have HBS7 : Hid (Bs w w7 h mb A z (updM f (sv : Int) (some (.int .i64 1))) (V ++ [sv])) := Lib.hid ⟨HO7.out, by rw [List.length_append, HVN.out]; exact hm7⟩
                        have HR7 := Lib.hid (And.intro (HR6.out.1.wrote ht7) (And.intro (HR6.out.2.1.wrote ht7) (HR6.out.2.2.wrote ht7)))
                        have hlk7 := hm7.look (t := 62) (z := .int .i64 0) Try.underlying62 (by kernel_rfl) HK.out
                        have hlk7 : (Instr.lookup 62 (.map (some mb)) (.int .i64 (sv : Int)) false).run Try.prog w7 = .ok (.int .i64 1) w7 := by
                          rw [hlk7]
                          unfold updM
                          rw [if_pos rfl]
                          rfl
                        have hst7 := ht7.stay (G := fun k => k ≠ mb) (fun k hk e => hk e)
                        have l7 := HL6.out.stay hst7 HGN.out
                        have d0 := l7.cell (o := 0) rfl
                        have d1 := l7.cell (o := 1) rfl
                        have hgl7 := l7.lt
                        obtain ⟨-, o1⟩ := HR7.out.1.cell HXI.out
                        obtain ⟨-, o2⟩ := HR7.out.2.1.cell HYK.out
                        obtain ⟨-, o3⟩ := HR7.out.2.2.cell HSVI.out
                        have hlk8 : ∀ m, (Instr.lookup 62 (.map (some mb)) (.int .i64 (sv : Int)) false).run Try.prog (w7.drewN m) = .ok (.int .i64 1) (w7.drewN m) := fun m => by
                          have := (hm7.below (drewN_belR w7 m)).look (t := 62) (z := .int .i64 0) Try.underlying62 (by kernel_rfl) HK.out
                          rw [this]
                          unfold updM
                          rw [if_pos rfl]
                          rfl
                        clear hm7 hg7 ht7 hme hst7 l7 hlk hlk7 c0 c1 p1 p2 p3 hgl HB6 HM6 HR6 HO7 HNN HME
                        go_wp2_with fail
                        go_quiet (fail)
                        go_wp2_with fail
                        go_roundg (ns - (n + 1))
                        case measure => have := HL3.out; omega
                        case rel => exact ⟨n + 1, V ++ [sv], _, by rw [List.length_append, HVN.out]; go_num, by go_num, by have := HL3.out; omega, Nat.le_refl _, Lib.hid (HBS7.out.below (drewN_belR _ _)), HME7, Lib.hid ⟨HR7.out.1.below (drewN_belR _ _), HR7.out.2.1.below (drewN_belR _ _), HR7.out.2.2.below (drewN_belR _ _)⟩⟩
                      · have hltz3 : ¬ (n : Int) < (ns : Int) := by omega
                        obtain rfl : ns = n := by omega
                        go_wp2_with fail
                        go_roundg (ni - (k + 1))
                        case measure => have := HL2.out; omega
                        case rel => exact ⟨k + 1, V, f, rfl, by go_num, by have := HL2.out; omega, Nat.le_refl _, HBS, Lib.hid (HME.out.congr (q2_end HYK.out HNS.out)), Lib.hid ⟨HR.out.1, HR.out.2.1⟩⟩
                · have hltz2 : ¬ (k : Int) < (ni : Int) := by omega
                  obtain rfl : ni = k := by omega
                  go_wp2_with fail
                  go_roundg (nt - (i + 1))
                  case measure => have := HL.out; omega
                  case rel => exact ⟨i + 1, V, f, rfl, by go_num, by have := HL.out; omega, Nat.le_refl _, HBS, Lib.hid (HME2.out.congr (q1_end HXI.out HID.out HNI.out)), Lib.hid HR.out.1⟩
          · have hltz : ¬ (i : Int) < (nt : Int) := by omega
            obtain rfl : nt = i := by omega
            have hlen := HME.out.all HBS.out.one.ok (q0_end HTR.out HNT.out)
            rw [hlen]
            clear hlen
            have hcon := one_len HBS.out.one (by have := HZ.out; omega) rfl
            go_wp2_with fail
            refine (show Calls Try.prog _ _ _ _ from hcon).mono ?_
            rintro e w7 ⟨rfl, ho, -⟩
            have HOE := Lib.hid ho
            clear hcon ho HBS
            go_wp2_with fail
            go_ret
            exact ⟨rfl, HOE.out.bel⟩

end Go.Proofs.Ytkedkeelbbfmkaa
