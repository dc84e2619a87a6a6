/-
  A heap is copied (stage 11).
-/
import Derived.Test.YtkedkeelbbfmkaaHTwin
import Derived.Laws.IdiomRangeMap
namespace Go.Proofs.Ytkedkeelbbfmkaa
open Go.RowKit
set_option linter.unusedVariables false

/-- A slot more, at the place where the walk appends. -/
theorem pushed {wr w w4 : World} {L : Nat → Lab} {h2 b m z i a4 : Nat} {tp : Int → Nat} {M : Hp} {s2 f2 : Value} {stp : Nat → Nat} {q : Option Addr} {g4 : Nat} {sv4 : Value} (H : Twin wr L h2 b m z (M.cut i) tp ∧ Lit wr h2 79 [s2, f2, .map (some b)] ∧ SlP wr L s2 i M.tup stp) (hi : i < M.n ∧ M.n ≤ z) (hbw : Below w.heap.size w wr) (hge : ∀ k, L k ≠ .no → w.heap.size ≤ k) (hz : z ≤ 90000) (hQ : a4 = a4)
    (hq : Value.pointer q = ptrO (M.tup i) g4) (hv : ∀ t, M.tup i = some t → Ver w4 wr.drew.heap.size g4 t sv4) (hb4 : Below wr.drew.heap.size wr.drew w4) :
    ∃ a' c' W6, (∀ ty, (Builtin.append_ #[75, 75] ty #[s2, .slice (some ⟨w4.heap.size, 0, none⟩) 1 1]).run Try.prog (w4.alloc (.cells #[.pointer q] 68)) = .ok (.slice a' (i + 1) c') W6) ∧
      (w4.cell? ⟨h2, 0, none⟩ = some s2 ∧ (w4.alloc (.cells #[.pointer q] 68)).cell? ⟨h2, 0, none⟩ = some s2 ∧ W6.cell? ⟨h2, 0, none⟩ = some s2 ∧ W6.frozen? ⟨h2, 0, none⟩ = false) ∧
      ∃ L7, Twin (W6.setCell ⟨h2, 0, none⟩ (.slice a' (i + 1) c')) L7 h2 b m z (M.cut (i + 1)) tp ∧ (∀ k, L7 k ≠ .no → w.heap.size ≤ k) ∧ (∀ k x, (L7 k).ofB x = true → (L k).ofB x = true) ∧ Below w.heap.size w (W6.setCell ⟨h2, 0, none⟩ (.slice a' (i + 1) c')) := by
  have hb : Below wr.heap.size wr w4 := below_tr (below_drw wr) hb4
  have hno : ∀ k, wr.heap.size ≤ k → L k = .no := fun k hk => by
    by_cases e : L k = .no
    · exact e
    · have := H.1.lt k e; omega
  have h4 := H.1.below hb
  have l4 := H.2.1.below hb
  have s4 : SlP w4 L s2 i M.tup stp := H.2.2.stay (Stay.of_below (G := fun _ => True) hb) (fun _ _ => trivial) |> fun h => h
  obtain ⟨a', c', W6, hrun, hl6, L7, r1, r2, r3, r4⟩ := h4.push (N := wr.heap.size) (n := i) (g := g4) (sv := sv4) (by omega) rfl (by omega) l4 s4 (fun t ht => ⟨hv t ht, fun k hk => hno k hk⟩) hb.size
  have hrun' : ∀ ty, (Builtin.append_ #[75, 75] ty #[s2, .slice (some ⟨w4.heap.size, 0, none⟩) 1 1]).run Try.prog (w4.alloc (.cells #[ptrO (M.tup i) g4] 68)) = .ok (.slice a' (i + 1) c') W6 := hrun
  rw [← hq] at hrun'
  have hbw4 := hbw.trans (hb.mono hbw.size)
  refine ⟨a', c', W6, hrun', ⟨l4.cell rfl, (l4.below (Below.allocs _ _)).cell rfl, hl6.cell rfl, hl6.fz 0⟩, L7, r1, fun k hk => ?_, r3, hbw4.trans (r4.below (fun k hk => hge k hk) hbw4.size)⟩
  rcases r2.new k hk with e | e
  · exact hge k e
  · have := hbw.size; omega

/-- clone_any, its value written out. -/
theorem clone_any' (w : World) (g : Nat) (o : Option Tup) (hw : ∀ t, o = some t → t.wf ∧ ∃ s, Lit w g 28 (tupC t s) ∧ RowV w s t.row) :
    Calls Try.prog 41 #[ptrO o g] w fun e w' => ∃ (q : Option Addr) (g' : Nat) (s' : Value), e = .returned (.pointer q) ∧ .pointer q = ptrO o g' ∧ (∀ t, o = some t → Ver w' w.heap.size g' t s') ∧ Below w.heap.size w w' := by
  refine (clone_any w g o hw).mono ?_
  rintro e w' ⟨v, rfl, -, g', s', rfl, h1, h2⟩
  cases o with
  | none => exact ⟨none, g', s', rfl, rfl, h1, h2⟩
  | some t => exact ⟨_, g', s', rfl, rfl, h1, h2⟩

theorem Twin.moreM {W : World} {L : Nat → Lab} {h b m m' z : Nat} {M : Hp} {tp : Int → Nat} (H : Twin W L h b m z M tp) (hm : m ≤ m') : Twin W L h b m' z M tp := by
  obtain ⟨s, f, stp, n, h1, h2, h3, h4, h5⟩ := H.ex
  exact ⟨H.lt, H.hp, H.nz, H.fz, H.tm, ⟨s, f, stp, n, h1, h2, h3, Nat.le_trans h4 hm, h5⟩, H.at'⟩

theorem Hp.part_start (M : Hp) {n : Nat} (hn : M.n = n) (tp : Int → Nat) : M.part (fun y => decide (I64 y) && (tbF M.tb tp y).isSome) = M.cut n := by
  subst hn
  unfold Hp.part Hp.cut
  congr 1
  funext y
  by_cases hy : I64 y
  · cases e : M.tb y with
    | none => split <;> rfl
    | some T => rw [if_pos]; left; unfold tbF; simp [hy, e]
  · rw [if_pos (.inr hy)]

theorem Hp.part_end (M : Hp) {left : Int → Bool} (hl : ∀ y, I64 y → left y = false) (hI : ∀ y T, M.tb y = some T → I64 y) : M.part left = M := by
  obtain ⟨Mn, Mt, Mf, Mr, Mb⟩ := M
  unfold Hp.part
  congr 1
  funext y
  by_cases hy : I64 y
  · rw [if_neg]
    rintro (h | h)
    · rw [hl y hy] at h; cases h
    · exact h hy
  · rw [if_pos (.inr hy)]
    cases e : Mb y with
    | none => rfl
    | some T => exact absurd (hI y T e) hy

set_option maxRecDepth 100000 in
set_option maxHeartbeats 8000000 in
theorem copy_none (w : World) (h : Nat) (M : Hp) (z : Nat) (L : Nat → Lab) (s f : Value) (stp : Nat → Nat) (hz : z ≤ 30000) (hwf : ∀ i t, i < M.n → M.tup i = some t → t.wf) (hl : Lit w h 79 [s, f, .map none]) (hs : SlP w L s M.n M.tup stp) (hf : FrP w L f M.fn M.fr) (hno : ∀ x, M.tb x = none) (hnz : M.n ≤ z) (hfz : M.fn ≤ z) :
    Calls Try.prog 21 #[ptrV h] w fun e w' => ∃ h2, e = .returned (ptrV h2) ∧ ∃ L2, HpM w' h2 M z L2 ∧ (∀ k, L2 k ≠ .no → w.heap.size ≤ k) ∧ Below w.heap.size w w' := by
  have mixed : Try.prog.follows Departure.mixedOrders = true := by kernel_rfl
  have HNO := Lib.hid hno
  clear hno
  obtain ⟨n, hn⟩ : ∃ n, M.n = n := ⟨_, rfl⟩
  rw [hn] at hs hnz
  obtain ⟨a0, cc0, rfl, hnc0, hcm0⟩ := hs.row.form
  have c0 := hl.cell (o := 0) rfl
  have c1 := hl.cell (o := 1) rfl
  have c2 := hl.cell (o := 2) rfl
  have hhl := hl.lt
  have hcon := cloneF_is f M.fn (fun j => (M.fr j : Int)) (by omega) w hf.row
  have HS := Lib.hid hs
  have HN := Lib.hid (And.intro hn hnz)
  have HZ := Lib.hid (show z ≤ 90000 by omega)
  have HFZ := Lib.hid hfz
  have HWF := Lib.hid hwf
  have HHL := Lib.hid hhl
  have HC := Lib.hid (And.intro c0 c2)
  unfold ptrV
  clear hl hs hf hn hnz hfz hz hwf c0 c2 hnc0 hcm0
  go_enter Try.func21, Try.ntmps21
  go_wp2_with fail
  refine hcon.mono ?_
  rintro e w1 ⟨v1, rfl, hr1, ho1, hb1⟩
  obtain ⟨a1, cc1, rfl, -, -⟩ := hr1.form
  obtain ⟨b2, hb2⟩ : ∃ b2, w1.heap.size = b2 := ⟨_, rfl⟩
  obtain ⟨L0, t1, t2, t3⟩ := Twin.new w1 M w.heap.size hb1.size hr1 ho1 z HFZ.out (fun _ => 0)
  have hmm := @run_makeMap Try.prog
  have hs1 : (w1.alloc (.map #[] 0)).heap.size = b2 + 1 := by rw [← hb2]; simp
  obtain ⟨W2, hW2⟩ : ∃ W2, (w1.alloc (.map #[] 0)).alloc (.cells #[.slice none 0 0, .slice a1 M.fn cc1, .map (some b2)] 79) = W2 := ⟨_, rfl⟩
  rw [hb2, hW2] at t1
  have hbb : Below w.heap.size w W2 := by rw [← hW2]; exact (hb1.alloc hb1.size _).alloc (Nat.le_trans hb1.size (by simp)) _
  have HT1 := Lib.hid (And.intro t1 (And.intro t2 t3))
  have HB1 := Lib.hid hbb
  have HW2 := Lib.hid hW2
  have HB2 := Lib.hid hb2
  have HSS := Lib.hid hs1
  clear hcon c1 hr1 ho1 hb1 hb2 hs1 hW2 t1 t2 t3 hbb
  go_upto_region 4 with (fail)
  rw [HB2.out, HW2.out]
  try rw [HSS.out]
  obtain ⟨h2, hh2⟩ : ∃ h2, b2 + 1 = h2 := ⟨_, rfl⟩
  have HH2 := Lib.hid hh2
  rw [hh2]
  have d0 : W2.cell? ⟨h, 0, none⟩ = some (.slice a0 n cc0) := by rw [HB1.out.cell (p := ⟨h, 0, none⟩) HHL.out]; exact HC.out.1
  clear HW2 HSS hmm hh2
  go_wp2_with fail
  go_loopg [23, 5] n (fun gg s23 _ wr => ∃ (i : Nat) (L2 : Nat → Lab), s23 = .int .i64 i ∧ i ≤ n ∧ n - i ≤ gg ∧ Hid (Twin wr L2 h2 b2 0 z (M.cut i) (fun _ => 0)) ∧ Hid ((∀ k x, (L2 k).ofB x = false) ∧ ∀ k, L2 k ≠ .no → w.heap.size ≤ k) ∧ Hid (Below w.heap.size w wr))
  case atStart =>
    obtain ⟨t1, t2, t3⟩ := HT1.out
    exact ⟨0, L0, rfl, Nat.zero_le _, by omega, Lib.hid (by rw [← HH2.out]; exact t1), Lib.hid ⟨t3, t2⟩, HB1⟩
  case round =>
    obtain ⟨i, L2, rfl, hin, hgg, HTW, HLT, HB⟩ := hrel
    clear d0 HT1
    by_cases hlt : i < n
    · have hltz : (i : Int) < (n : Int) := by omega
      have hi0 : (0 : Int) ≤ (i : Int) := by omega
      obtain ⟨bs, c, e, hnc, hcm, hbl, hat, hfz⟩ := RowF.at HS.out.row (j := i) hlt
      cases e
      obtain ⟨q5, hq5⟩ : ∃ q5, ptrO (M.tup i) (stp i) = .pointer q5 := by cases M.tup i <;> exact ⟨_, rfl⟩
      have e0 : wr.cell? ⟨bs, i, none⟩ = some (.pointer q5) := by
        rw [HB.out.cell (p := ⟨bs, i, none⟩) hbl]
        have := hat i hlt 0 (.pointer q5) (by rw [hq5]; rfl)
        rwa [Nat.mul_one, Nat.add_zero] at this
      obtain ⟨s2, f2, stp2, nn2, tl, ts, -⟩ := HTW.out.ex
      have HI := Lib.hid (And.intro hin (And.intro hgg hlt))
      have HMTWIN := Lib.hid (And.intro HTW.out (And.intro tl ts))
      have HMLE : Hid (i < M.n ∧ M.n ≤ z) := Lib.hid (by have := HN.out; omega)
      have HS0 : Hid (wr.drew.cell? ⟨h2, 0, none⟩ = some s2) := Lib.hid ((tl.below (below_drw wr)).cell rfl)
      have HCL0 : Hid (∀ t, M.tup i = some t → t.wf ∧ ∃ s, Lit wr.drew (stp i) 28 (tupC t s) ∧ RowV wr.drew s t.row) := Lib.hid (fun t ht => by
        obtain ⟨_, sv, k1, k2, _⟩ := HS.out.at' i t hlt ht
        have hbd := below_tr HB.out (below_drw wr)
        exact ⟨HWF.out i t (by have := HN.out; omega) ht, sv, k1.below hbd, k2.below hbd⟩)
      have HCL := Lib.hid (by have := clone_any' wr.drew (stp i) (M.tup i) HCL0.out; rw [hq5] at this; exact this)
      have HQ4 : Hid (0 = 0) := Lib.hid rfl
      clear hat hfz hnc hcm hbl hin hgg hlt tl ts hq5
      go_upto_region 7 with (fail)
      refine RX.wp_region_lastH 9 (fun W => W.cell? ⟨h2, 0, none⟩ = some s2) mixed (by kernel_rfl) ?_
      simp only [List.take_succ_cons, List.take_zero, List.drop_succ_cons, List.drop_zero]
      refine wpAnyH_take (i := 0) (oi := _) (v := .pointer (some ⟨h2, 0, none⟩)) rfl (by kernel_rfl) (by kernel_rfl) (by kernel_rfl) (fun _ _ _ h => h) (Or.inl ⟨by rfl, fun w' hw' => ?_⟩) (HS0.out) ?_
      · have j0 := hw'
        go_simp
        try first | with_reducible rfl | simp
      refine wpAnyH_take (i := 1) (oi := _) (v := .pointer (some ⟨h2, 0, none⟩)) rfl (by kernel_rfl) (by kernel_rfl) (by kernel_rfl) (fun _ _ _ h => h) (Or.inl ⟨by rfl, fun w' hw' => ?_⟩) (HS0.out) ?_
      · have j0 := hw'
        go_simp
        try first | with_reducible rfl | simp
      refine wpAnyH_take (i := 2) (oi := _) (v := .pointer (some ⟨h2, 0, none⟩)) rfl (by kernel_rfl) (by kernel_rfl) (by kernel_rfl) (fun _ _ _ h => h) (Or.inl ⟨by rfl, fun w' hw' => ?_⟩) (HS0.out) ?_
      · have j0 := hw'
        go_simp
        try first | with_reducible rfl | simp
      refine wpAnyH_take (i := 3) (oi := _) (v := .pointer (some ⟨h2, 0, none⟩)) rfl (by kernel_rfl) (by kernel_rfl) (by kernel_rfl) (fun _ _ _ h => h) (Or.inl ⟨by rfl, fun w' hw' => ?_⟩) (HS0.out) ?_
      · have j0 := hw'
        go_simp
        try first | with_reducible rfl | simp
      refine wpAnyH_take (i := 4) (oi := _) (v := s2) rfl (by kernel_rfl) (by kernel_rfl) (by kernel_rfl) (fun _ _ _ h => h) (Or.inl ⟨by rfl, fun w' hw' => ?_⟩) (HS0.out) ?_
      · have j0 := hw'
        go_simp
        try first | with_reducible rfl | simp
      refine wpAnyH_take (i := 5) (oi := _) (v := .pointer q5) rfl (by kernel_rfl) (by kernel_rfl) (by kernel_rfl) (fun _ _ _ h => h) (Or.inl ⟨by rfl, fun w' hw' => ?_⟩) (HS0.out) ?_
      · have j0 := hw'
        go_simp
        try first | with_reducible rfl | simp
      refine RX.anyH_call (i := 6) (f := 41) (args := #[.pointer q5]) (by kernel_rfl) rfl (by rfl) (by go_simp) ?_
      refine (show Calls Try.prog _ _ _ _ from HCL.out).mono ?_
      rintro e w4 ⟨q4, g4, sv4, rfl, hq4, hv4, hb4⟩
      
      obtain ⟨a', c', W6, hrun, hl6, L7, r1, r2, r3, r4⟩ := pushed (q := q4) HMTWIN.out HMLE.out HB.out HLT.out.2 HZ.out HQ4.out hq4 hv4 hb4
      have HRUN := Lib.hid hrun
      have HEND := Lib.hid (And.intro r1 (And.intro r2 (And.intro r3 r4)))
      have HS1 : Hid (w4.cell? ⟨h2, 0, none⟩ = some s2) := Lib.hid (hl6.1)
      have HS2 : Hid ((w4.alloc (.cells #[.pointer q4] 68)).cell? ⟨h2, 0, none⟩ = some s2) := Lib.hid hl6.2.1
      have HS3 : Hid (W6.cell? ⟨h2, 0, none⟩ = some s2) := Lib.hid hl6.2.2.1
      clear hq4 hv4 hb4 hrun r1 r2 r3 r4
      refine ⟨.pointer q4, rfl, HS1.out, ?_⟩
      refine RX.anyH_val (i := 7) (v := .slice (some ⟨w4.heap.size, 0, none⟩) 1 1) (w' := w4.alloc (.cells #[.pointer q4] 68)) (by kernel_rfl) rfl (by rfl) (by go_simp) (HS2.out) ?_
      refine RX.anyH_app (i := 8) (v := s2) (u := .slice (some ⟨w4.heap.size, 0, none⟩) 1 1) (.tmp 31) (.tmp 34) (75) (75) (by kernel_rfl) rfl (by rfl) rfl (by go_simp) (by go_simp) (HRUN.out _) (HS3.out) ?_
      refine wpAnyH_done (by kernel_rfl) ?_ _
      unfold RX.lastQ
      go_wp2_with fail
      obtain ⟨r1, r2, r3, r4⟩ := HEND.out
      obtain ⟨hin, hgg, hlt⟩ := HI.out
      have hwi : wrap64 ((i : Int) + 1) = (i : Int) + 1 := wrOk (by have := HN.out; have := HZ.out; omega)
      go_roundg (n - (i + 1))
      case measure => omega
      case rel => exact ⟨i + 1, L7, by rw [hwi]; rfl, by omega, Nat.le_refl _, Lib.hid r1, Lib.hid ⟨fun k x => (by
        cases e : (L7 k).ofB x with
        | false => rfl
        | true => have := r3 k x e; rw [HLT.out.1 k x] at this; cases this), r2⟩, Lib.hid r4⟩
    · have hltz : ¬ (i : Int) < (n : Int) := by omega
      obtain rfl : i = n := by omega
      clear hin hgg hlt
      have d2 : wr.cell? ⟨h, 2, none⟩ = some (.map none) := by rw [HB.out.cell (p := ⟨h, 2, none⟩) HHL.out]; exact HC.out.2
      have hr := run_range_nilMap (P := Try.prog) wr 77 3 70 Try.underlying77
      have hnx := fun ty => run_next_nilMap (P := Try.prog) wr ty 0 0 #[]
      go_wp2_with fail
      refine wp_loop_rounds 1 ?_
      rw [rounds_succ]
      go_wp2_with fail
      go_ret
      have hal := Below.allocs wr (.mapIter none 0 #[] 0)
      refine ⟨h2, rfl, L2, ?_, HLT.out.2, below_tr HB.out hal⟩
      have e : M.cut i = M := by
        unfold Hp.cut
        obtain ⟨Mn, Mt, Mf, Mr, Mb⟩ := M
        have hni : Mn = i := HN.out.1
        subst hni
        congr 1
        funext y
        exact (HNO.out y).symm
      have := (HTW.out.below hal).hpm (Nat.zero_le _)
      rwa [e] at this
set_option maxRecDepth 100000 in
set_option maxHeartbeats 8000000 in
theorem copy_some (w : World) (h : Nat) (M : Hp) (z : Nat) (L : Nat → Lab) (b : Nat) (tp : Int → Nat) (hz : z ≤ 30000) (hwf : ∀ i t, i < M.n → M.tup i = some t → t.wf) (H : HpG w h M z L b tp) :
    Calls Try.prog 21 #[ptrV h] w fun e w' => ∃ h2, e = .returned (ptrV h2) ∧ ∃ L2, HpM w' h2 M z L2 ∧ (∀ k, L2 k ≠ .no → w.heap.size ≤ k) ∧ Below w.heap.size w w' := by
  have mixed : Try.prog.follows Departure.mixedOrders = true := by kernel_rfl
  obtain ⟨s, f, stp, nt, hl, hs, hf, hnt, hm⟩ := H.ex
  have hnz := H.nz
  have hfz := H.fz
  have HG := Lib.hid H
  have HM := Lib.hid hm
  have HNT : Hid (nt ≤ z) := Lib.hid hnt
  clear H hm hnt
  obtain ⟨n, hn⟩ : ∃ n, M.n = n := ⟨_, rfl⟩
  rw [hn] at hs hnz
  obtain ⟨a0, cc0, rfl, hnc0, hcm0⟩ := hs.row.form
  have c0 := hl.cell (o := 0) rfl
  have c1 := hl.cell (o := 1) rfl
  have c2 := hl.cell (o := 2) rfl
  have hhl := hl.lt
  have hcon := cloneF_is f M.fn (fun j => (M.fr j : Int)) (by omega) w hf.row
  have HS := Lib.hid hs
  have HN := Lib.hid (And.intro hn hnz)
  have HZ := Lib.hid (show z ≤ 90000 by omega)
  have HFZ := Lib.hid hfz
  have HWF := Lib.hid hwf
  have HHL := Lib.hid hhl
  have HC := Lib.hid (And.intro c0 c2)
  unfold ptrV
  clear hl hs hf hn hnz hfz hz hwf c0 c2 hnc0 hcm0
  go_enter Try.func21, Try.ntmps21
  go_wp2_with fail
  refine hcon.mono ?_
  rintro e w1 ⟨v1, rfl, hr1, ho1, hb1⟩
  obtain ⟨a1, cc1, rfl, -, -⟩ := hr1.form
  obtain ⟨b2, hb2⟩ : ∃ b2, w1.heap.size = b2 := ⟨_, rfl⟩
  obtain ⟨L0, t1, t2, t3⟩ := Twin.new w1 M w.heap.size hb1.size hr1 ho1 z HFZ.out (fun _ => 0)
  have hmm := @run_makeMap Try.prog
  have hs1 : (w1.alloc (.map #[] 0)).heap.size = b2 + 1 := by rw [← hb2]; simp
  obtain ⟨W2, hW2⟩ : ∃ W2, (w1.alloc (.map #[] 0)).alloc (.cells #[.slice none 0 0, .slice a1 M.fn cc1, .map (some b2)] 79) = W2 := ⟨_, rfl⟩
  rw [hb2, hW2] at t1
  have hbb : Below w.heap.size w W2 := by rw [← hW2]; exact (hb1.alloc hb1.size _).alloc (Nat.le_trans hb1.size (by simp)) _
  have HT1 := Lib.hid (And.intro t1 (And.intro t2 t3))
  have HB1 := Lib.hid hbb
  have HW2 := Lib.hid hW2
  have HB2 := Lib.hid hb2
  have HSS := Lib.hid hs1
  clear hcon c1 hr1 ho1 hb1 hb2 hs1 hW2 t1 t2 t3 hbb
  go_upto_region 4 with (fail)
  rw [HB2.out, HW2.out]
  try rw [HSS.out]
  obtain ⟨h2, hh2⟩ : ∃ h2, b2 + 1 = h2 := ⟨_, rfl⟩
  have HH2 := Lib.hid hh2
  rw [hh2]
  have d0 : W2.cell? ⟨h, 0, none⟩ = some (.slice a0 n cc0) := by rw [HB1.out.cell (p := ⟨h, 0, none⟩) HHL.out]; exact HC.out.1
  clear HW2 HSS hmm hh2
  go_wp2_with fail
  go_loopg [23, 5] n (fun gg s23 _ wr => ∃ (i : Nat) (L2 : Nat → Lab), s23 = .int .i64 i ∧ i ≤ n ∧ n - i ≤ gg ∧ Hid (Twin wr L2 h2 b2 0 z (M.cut i) (fun _ => 0)) ∧ Hid ((∀ k x, (L2 k).ofB x = false) ∧ ∀ k, L2 k ≠ .no → w.heap.size ≤ k) ∧ Hid (Below w.heap.size w wr))
  case atStart =>
    obtain ⟨t1, t2, t3⟩ := HT1.out
    exact ⟨0, L0, rfl, Nat.zero_le _, by omega, Lib.hid (by rw [← HH2.out]; exact t1), Lib.hid ⟨t3, t2⟩, HB1⟩
  case round =>
    obtain ⟨i, L2, rfl, hin, hgg, HTW, HLT, HB⟩ := hrel
    clear d0 HT1
    by_cases hlt : i < n
    · have hltz : (i : Int) < (n : Int) := by omega
      have hi0 : (0 : Int) ≤ (i : Int) := by omega
      obtain ⟨bs, c, e, hnc, hcm, hbl, hat, hfz⟩ := RowF.at HS.out.row (j := i) hlt
      cases e
      obtain ⟨q5, hq5⟩ : ∃ q5, ptrO (M.tup i) (stp i) = .pointer q5 := by cases M.tup i <;> exact ⟨_, rfl⟩
      have e0 : wr.cell? ⟨bs, i, none⟩ = some (.pointer q5) := by
        rw [HB.out.cell (p := ⟨bs, i, none⟩) hbl]
        have := hat i hlt 0 (.pointer q5) (by rw [hq5]; rfl)
        rwa [Nat.mul_one, Nat.add_zero] at this
      obtain ⟨s2, f2, stp2, nn2, tl, ts, -⟩ := HTW.out.ex
      have HI := Lib.hid (And.intro hin (And.intro hgg hlt))
      have HMTWIN := Lib.hid (And.intro HTW.out (And.intro tl ts))
      have HMLE : Hid (i < M.n ∧ M.n ≤ z) := Lib.hid (by have := HN.out; omega)
      have HS0 : Hid (wr.drew.cell? ⟨h2, 0, none⟩ = some s2) := Lib.hid ((tl.below (below_drw wr)).cell rfl)
      have HCL0 : Hid (∀ t, M.tup i = some t → t.wf ∧ ∃ s, Lit wr.drew (stp i) 28 (tupC t s) ∧ RowV wr.drew s t.row) := Lib.hid (fun t ht => by
        obtain ⟨_, sv, k1, k2, _⟩ := HS.out.at' i t hlt ht
        have hbd := below_tr HB.out (below_drw wr)
        exact ⟨HWF.out i t (by have := HN.out; omega) ht, sv, k1.below hbd, k2.below hbd⟩)
      have HCL := Lib.hid (by have := clone_any' wr.drew (stp i) (M.tup i) HCL0.out; rw [hq5] at this; exact this)
      have HQ4 : Hid (0 = 0) := Lib.hid rfl
      clear hat hfz hnc hcm hbl hin hgg hlt tl ts hq5
      go_upto_region 7 with (fail)
      refine RX.wp_region_lastH 9 (fun W => W.cell? ⟨h2, 0, none⟩ = some s2) mixed (by kernel_rfl) ?_
      simp only [List.take_succ_cons, List.take_zero, List.drop_succ_cons, List.drop_zero]
      refine wpAnyH_take (i := 0) (oi := _) (v := .pointer (some ⟨h2, 0, none⟩)) rfl (by kernel_rfl) (by kernel_rfl) (by kernel_rfl) (fun _ _ _ h => h) (Or.inl ⟨by rfl, fun w' hw' => ?_⟩) (HS0.out) ?_
      · have j0 := hw'
        go_simp
        try first | with_reducible rfl | simp
      refine wpAnyH_take (i := 1) (oi := _) (v := .pointer (some ⟨h2, 0, none⟩)) rfl (by kernel_rfl) (by kernel_rfl) (by kernel_rfl) (fun _ _ _ h => h) (Or.inl ⟨by rfl, fun w' hw' => ?_⟩) (HS0.out) ?_
      · have j0 := hw'
        go_simp
        try first | with_reducible rfl | simp
      refine wpAnyH_take (i := 2) (oi := _) (v := .pointer (some ⟨h2, 0, none⟩)) rfl (by kernel_rfl) (by kernel_rfl) (by kernel_rfl) (fun _ _ _ h => h) (Or.inl ⟨by rfl, fun w' hw' => ?_⟩) (HS0.out) ?_
      · have j0 := hw'
        go_simp
        try first | with_reducible rfl | simp
      refine wpAnyH_take (i := 3) (oi := _) (v := .pointer (some ⟨h2, 0, none⟩)) rfl (by kernel_rfl) (by kernel_rfl) (by kernel_rfl) (fun _ _ _ h => h) (Or.inl ⟨by rfl, fun w' hw' => ?_⟩) (HS0.out) ?_
      · have j0 := hw'
        go_simp
        try first | with_reducible rfl | simp
      refine wpAnyH_take (i := 4) (oi := _) (v := s2) rfl (by kernel_rfl) (by kernel_rfl) (by kernel_rfl) (fun _ _ _ h => h) (Or.inl ⟨by rfl, fun w' hw' => ?_⟩) (HS0.out) ?_
      · have j0 := hw'
        go_simp
        try first | with_reducible rfl | simp
      refine wpAnyH_take (i := 5) (oi := _) (v := .pointer q5) rfl (by kernel_rfl) (by kernel_rfl) (by kernel_rfl) (fun _ _ _ h => h) (Or.inl ⟨by rfl, fun w' hw' => ?_⟩) (HS0.out) ?_
      · have j0 := hw'
        go_simp
        try first | with_reducible rfl | simp
      refine RX.anyH_call (i := 6) (f := 41) (args := #[.pointer q5]) (by kernel_rfl) rfl (by rfl) (by go_simp) ?_
      refine (show Calls Try.prog _ _ _ _ from HCL.out).mono ?_
      rintro e w4 ⟨q4, g4, sv4, rfl, hq4, hv4, hb4⟩
      
      obtain ⟨a', c', W6, hrun, hl6, L7, r1, r2, r3, r4⟩ := pushed (q := q4) HMTWIN.out HMLE.out HB.out HLT.out.2 HZ.out HQ4.out hq4 hv4 hb4
      have HRUN := Lib.hid hrun
      have HEND := Lib.hid (And.intro r1 (And.intro r2 (And.intro r3 r4)))
      have HS1 : Hid (w4.cell? ⟨h2, 0, none⟩ = some s2) := Lib.hid (hl6.1)
      have HS2 : Hid ((w4.alloc (.cells #[.pointer q4] 68)).cell? ⟨h2, 0, none⟩ = some s2) := Lib.hid hl6.2.1
      have HS3 : Hid (W6.cell? ⟨h2, 0, none⟩ = some s2) := Lib.hid hl6.2.2.1
      clear hq4 hv4 hb4 hrun r1 r2 r3 r4
      refine ⟨.pointer q4, rfl, HS1.out, ?_⟩
      refine RX.anyH_val (i := 7) (v := .slice (some ⟨w4.heap.size, 0, none⟩) 1 1) (w' := w4.alloc (.cells #[.pointer q4] 68)) (by kernel_rfl) rfl (by rfl) (by go_simp) (HS2.out) ?_
      refine RX.anyH_app (i := 8) (v := s2) (u := .slice (some ⟨w4.heap.size, 0, none⟩) 1 1) (.tmp 31) (.tmp 34) (75) (75) (by kernel_rfl) rfl (by rfl) rfl (by go_simp) (by go_simp) (HRUN.out _) (HS3.out) ?_
      refine wpAnyH_done (by kernel_rfl) ?_ _
      unfold RX.lastQ
      go_wp2_with fail
      obtain ⟨r1, r2, r3, r4⟩ := HEND.out
      obtain ⟨hin, hgg, hlt⟩ := HI.out
      have hwi : wrap64 ((i : Int) + 1) = (i : Int) + 1 := wrOk (by have := HN.out; have := HZ.out; omega)
      go_roundg (n - (i + 1))
      case measure => omega
      case rel => exact ⟨i + 1, L7, by rw [hwi]; rfl, by omega, Nat.le_refl _, Lib.hid r1, Lib.hid ⟨fun k x => (by
        cases e : (L7 k).ofB x with
        | false => rfl
        | true => have := r3 k x e; rw [HLT.out.1 k x] at this; cases this), r2⟩, Lib.hid r4⟩
    · have hltz : ¬ (i : Int) < (n : Int) := by omega
      obtain rfl : i = n := by omega
      clear hin hgg hlt
      have d2 : wr.cell? ⟨h, 2, none⟩ = some (.map (some b)) := by rw [HB.out.cell (p := ⟨h, 2, none⟩) HHL.out]; exact HC.out.2
      obtain ⟨r, hr⟩ : ∃ r, wr.heap.size = r := ⟨_, rfl⟩
      go_wp2_with (first | (at_range; refine range_f rfl _ _ rfl 70 Try.underlying77 rfl (HM.out.below HB.out) (fun w0 cnt0 hcn hrg hb0 hsz0 => ?_)) | go_in)
      try go_frame
      rw [hr] at hrg
      try rw [hr]
      have HRr := Lib.hid (And.intro hr HB.out.size)
      have HHG := Lib.hid (HG.out.below HB.out)
      have HBR := Lib.hid (below_tr HB.out hb0)
      have HINV : Hid (Twin w0 L2 h2 b2 (nt - cnt0) z (M.part (fun y => decide (I64 y) && (tbF M.tb tp y).isSome)) (fun _ => 0) ∧ (∀ k, L2 k ≠ .no → k < r)) := Lib.hid (by
        refine ⟨?_, fun k hk => by rw [← hr]; exact HTW.out.lt k hk⟩
        have e : M.part (fun y => decide (I64 y) && (tbF M.tb tp y).isSome) = M.cut i := Hp.part_start M HN.out.1 tp
        rw [e]
        exact (HTW.out.moreM (Nat.zero_le _)).below hb0)
      have HRG := Lib.hid hrg
      have HCN := Lib.hid hcn
      have HRS : Hid (r < w0.heap.size) := Lib.hid (by omega)
      clear hr hrg hcn hb0 hsz0 HTW d2
      go_loopg [6] cnt0 (fun gg _ wq => ∃ (left : Int → Bool) (cnt : Nat) (L3 : Nat → Lab) (tp2 : Int → Nat), cnt ≤ gg ∧ cnt ≤ nt ∧ Hid (RangeF wq b r nt (tbF M.tb tp) left cnt) ∧ Hid (Twin wq L3 h2 b2 (nt - cnt) z (M.part left) tp2) ∧ Hid (∀ k, L3 k ≠ .no → w.heap.size ≤ k) ∧ Hid (L3 r = .no) ∧ Hid (Below w.heap.size w wq) ∧ Hid (∀ k x, I64 x → left x = true → (L3 k).ofB x = false))
      case atStart =>
        obtain ⟨q1, q2⟩ := HINV.out
        exact ⟨_, cnt0, L2, _, Nat.le_refl _, HCN.out, HRG, Lib.hid q1, Lib.hid HLT.out.2, Lib.hid (by
          by_cases e : L2 r = .no
          · exact e
          · have := q2 r e; omega), HBR, Lib.hid (fun k x _ _ => HLT.out.1 k x)⟩
      case round =>
        obtain ⟨left, cnt, L3, tp2, hgg, hcn, HRG1, HTB, HGE, HLR, HBQ, HNEW⟩ := hrel
        clear HRG HINV HCN HRS HLT HBR
        have HGG := Lib.hid (And.intro hgg hcn)
        have HJ : Hid (∀ w', Touch (fun k => k = r) wr w' → Twin w' L3 h2 b2 (nt - cnt) z (M.part left) tp2 ∧ Below w.heap.size w w' ∧ wr.heap.size ≤ w'.heap.size) := Lib.hid (fun w' ht => ⟨HTB.out.stay (ht.stay (G := fun k => L3 k ≠ .no) (fun k hk e => hk (by rw [e]; exact HLR.out))), HBQ.out.trans (ht.below (fun k hk => by have := HRr.out; omega) HBQ.out.size), ht.size⟩)
        clear hgg hcn
        go_wp2_with (first
          | (at_next; refine next_tb (fun w' => Twin w' L3 h2 b2 (nt - cnt) z (M.part left) tp2 ∧ Below w.heap.size w w' ∧ wr.heap.size ≤ w'.heap.size) rfl _ rfl rfl HRG1.out HJ.out (fun hl0 => ?_) (fun x T w3 cnt2 hx hlx hT hrg2 hlt2 hj2 hen => ?_))
          | go_in)
        · -- nothing is left
          go_ret
          refine ⟨h2, rfl, L3, ?_, HGE.out, HBQ.out⟩
          have e : M.part left = M := Hp.part_end M hl0 (fun y T e => (HG.out.at' y T e).1)
          have := HTB.out.hpm (by have := HNT.out; omega)
          rwa [e] at this
        · -- a table
          obtain ⟨s2, f2, stp2, nn2, tl, -, -, tn, tm⟩ := hj2.1.ex
          have hb3 : Below w.heap.size w w3 := hj2.2.1
          have tld := tl.below (below_drw w3)
          have HS0 : Hid (w3.drew.cell? ⟨h2, 2, none⟩ = some (.map (some b2))) := Lib.hid (tld.cell rfl)
          have HGL : Hid (h2 < w3.heap.size) := Lib.hid tl.lt
          obtain ⟨hI, hta⟩ := HG.out.at' x T hT
          obtain ⟨q1, bi, ni, lp, q2, q3, q4, q5, q6⟩ := hta
          have hb3d := below_tr hb3 (below_drw w3)
          have hge : ∀ k, k < w.heap.size → L3 k = .no := fun k hk => by
            by_cases e : L3 k = .no
            · exact e
            · have := HGE.out k e; omega
          have HCL := Lib.hid (tclone_is w3.drew L3 z (tp x) bi ni x T lp HZ.out (fun k hk => Nat.lt_of_lt_of_le (HTB.out.lt k hk) hj2.2.2) (q2.below hb3d) q4 (q5.below hb3d) (fun y hy => ⟨(q6 y hy).1, (q6 y hy).2.1, RowF.below (q6 y hy).2.2.1 hb3d⟩) (hge bi q5.lt) (fun k e => by
            have h1 := HNEW.out k x hx hlx
            rw [e] at h1
            simp [Lab.ofB] at h1))
          have HT3 := Lib.hid (And.intro tn tm)
          have HJ3 := Lib.hid hj2
          have HRG3 := Lib.hid hrg2
          have HX3 := Lib.hid (And.intro hx (And.intro hlx (And.intro hT hlt2)))
          have hnm : nn2 < maxLen := by have := HNT.out; have := HZ.out; unfold maxLen; omega
          have HNM := Lib.hid hnm
          clear tl tn tm tld hb3 hb3d hI q1 q2 q3 q4 q5 q6 hge hj2 hrg2 hx hlx hT hlt2 hen hnm
          refine RX.wp_region_lastH 7 (fun W => W.cell? ⟨h2, 2, none⟩ = some (.map (some b2))) mixed (by kernel_rfl) ?_
          simp only [List.take_succ_cons, List.take_zero, List.drop_succ_cons, List.drop_zero]
          refine wpAnyH_take (i := 0) (oi := _) (v := .pointer (some ⟨h2, 0, none⟩)) rfl (by kernel_rfl) (by kernel_rfl) (by kernel_rfl) (fun _ _ _ h => h) (Or.inl ⟨by rfl, fun w' hw' => ?_⟩) (HS0.out) ?_
          · have j0 := hw'
            go_simp
            try first | with_reducible rfl | simp
          refine wpAnyH_take (i := 1) (oi := _) (v := .pointer (some ⟨h2, 0, none⟩)) rfl (by kernel_rfl) (by kernel_rfl) (by kernel_rfl) (fun _ _ _ h => h) (Or.inl ⟨by rfl, fun w' hw' => ?_⟩) (HS0.out) ?_
          · have j0 := hw'
            go_simp
            try first | with_reducible rfl | simp
          refine wpAnyH_take (i := 2) (oi := _) (v := .pointer (some ⟨h2, 2, none⟩)) rfl (by kernel_rfl) (by kernel_rfl) (by kernel_rfl) (fun _ _ _ h => h) (Or.inl ⟨by rfl, fun w' hw' => ?_⟩) (HS0.out) ?_
          · have j0 := hw'
            go_simp
            try first | with_reducible rfl | simp
          refine wpAnyH_take (i := 3) (oi := _) (v := .map (some b2)) rfl (by kernel_rfl) (by kernel_rfl) (by kernel_rfl) (fun _ _ _ h => h) (Or.inl ⟨by rfl, fun w' hw' => ?_⟩) (HS0.out) ?_
          · have j0 := hw'
            go_simp
            try first | with_reducible rfl | simp
          refine wpAnyH_take (i := 4) (oi := _) (v := .int .i64 x) rfl (by kernel_rfl) (by kernel_rfl) (by kernel_rfl) (fun _ _ _ h => h) (Or.inl ⟨by rfl, fun w' hw' => ?_⟩) (HS0.out) ?_
          · have j0 := hw'
            go_simp
            try first | with_reducible rfl | simp
          refine wpAnyH_take (i := 5) (oi := _) (v := .pointer (some ⟨tp x, 0, none⟩)) rfl (by kernel_rfl) (by kernel_rfl) (by kernel_rfl) (fun _ _ _ h => h) (Or.inl ⟨by rfl, fun w' hw' => ?_⟩) (HS0.out) ?_
          · have j0 := hw'
            go_simp
            try first | with_reducible rfl | simp
          refine RX.anyH_call (i := 6) (f := 54) (args := #[.pointer (some ⟨tp x, 0, none⟩)]) (by kernel_rfl) rfl (by rfl) (by go_simp) ?_
          refine (show Calls Try.prog _ _ _ _ from HCL.out).mono ?_
          rintro e w4 ⟨g4, rfl, L4, hT4, hE4, hlt4, hnew4, hg4, hb4⟩
          
          have HT4 := Lib.hid (And.intro hT4 (And.intro hE4 (And.intro hlt4 (And.intro hnew4 hg4))))
          have HB4 := Lib.hid (below_tr (below_drw w3) hb4)
          have HS4 : Hid (w4.cell? ⟨h2, 2, none⟩ = some (.map (some b2))) := Lib.hid (by rw [HB4.out.cell (p := ⟨h2, 2, none⟩) HGL.out]; exact HS0.out)
          clear hT4 hE4 hlt4 hnew4 hg4 hb4
          refine ⟨.pointer (some ⟨g4, 0, none⟩), rfl, HS4.out, ?_⟩
          refine wpAnyH_done (by kernel_rfl) ?_ _
          unfold RX.lastQ
          go_wp2_with (first | (at_mapUpdate; refine put_f rfl _ _ _ 77 rfl 70 Try.underlying77 b2 nn2 (tbF (M.part left).tb tp2) rfl (HT3.out.2.below HB4.out) HNM.out x HX3.out.1 rfl (.pointer (some ⟨g4, 0, none⟩)) rfl ?_; intro w7 hm7 hg7) | go_in)
          obtain ⟨hx, hlx, hT, hlt2⟩ := HX3.out
          obtain ⟨hT4, hE4, hlt4, hnew4, hg4⟩ := HT4.out
          have htw := (HJ3.out.1.below HB4.out).put hx hT hE4 hlt4 hT4 HT3.out.1 hm7 hg7
          have hg47 : Touch (fun k => k = b2) w4 w7 := Touch.grown hg7 (fun k hk => (Option.some.inj hk).symm)
          have hb2ge : w.heap.size ≤ b2 := HGE.out b2 (by rw [HTB.out.tm]; simp)
          have hb7 : Below w.heap.size w w7 := ((HJ3.out.2.1).trans (HB4.out.mono HJ3.out.2.1.size)).trans (hg47.below (fun k hk => by omega) (Nat.le_trans HJ3.out.2.1.size HB4.out.size))
          have hrb2 : r ≠ b2 := fun e => by have h1 := HLR.out; rw [e, HTB.out.tm] at h1; cases h1
          have hbb2 : b ≠ b2 := by have := HM.out.lt; omega
          have hrg7 : RangeF w7 b r nt (tbF M.tb tp) (fun z => left z && !decide (z = x)) cnt2 := (HRG3.out.below HB4.out).kept hg47.size (hg47.block b (HRG3.out.below HB4.out).map.lt hbb2) (hg47.block r (HRG3.out.below HB4.out).lt hrb2)
          go_roundg cnt2
          case measure => have := HGG.out; omega
          case rel =>
            refine ⟨_, cnt2, L4, _, Nat.le_refl _, by have := HGG.out; omega, Lib.hid hrg7, Lib.hid (htw.moreM (by have := HGG.out; omega)), Lib.hid (fun k hk => ?_), Lib.hid ?_, Lib.hid hb7, Lib.hid (fun k y hy hly => ?_)⟩
            · rcases hE4.new k hk with e | e
              · exact HGE.out k e
              · exact Nat.le_trans HJ3.out.2.1.size e
            · by_cases e : L4 r = .no
              · exact e
              · rcases hE4.new r e with e2 | e2
                · exact absurd HLR.out e2
                · have := HRG3.out.lt
                  have h9 : w3.heap.size ≤ r := e2
                  omega
            · simp only [Bool.and_eq_true, Bool.not_eq_true', decide_eq_false_iff_not] at hly
              by_cases e : L4 k = .no
              · rw [e]; rfl
              · by_cases e3 : L3 k = .no
                · rcases hnew4 k e with e2 | e2
                  · exact absurd e3 e2
                  · exact ofB_ne e2 (fun e5 => hly.2 e5.symm)
                · rw [hE4.old k e3]; exact HNEW.out k y hy hly.1

theorem hcopy_is (w : World) (h : Nat) (M : Hp) (z : Nat) (L : Nat → Lab) (hz : z ≤ 30000) (hwf : ∀ i t, i < M.n → M.tup i = some t → t.wf) (H : HpM w h M z L) :
    Calls Try.prog 21 #[ptrV h] w fun e w' => ∃ h2, e = .returned (ptrV h2) ∧ ∃ L2, HpM w' h2 M z L2 ∧ (∀ k, L2 k ≠ .no → w.heap.size ≤ k) ∧ Below w.heap.size w w' := by
  obtain ⟨s, f, m, stp, hl, hs, hf, ht⟩ := H.ex
  rcases ht with ⟨rfl, hno⟩ | ⟨b, n, tp, rfl, h2, h3, h4, h5⟩
  · exact copy_none w h M z L s f stp hz hwf hl hs hf hno H.nz H.fz
  · exact copy_some w h M z L b tp hz hwf ⟨H.lt, H.hp, H.nz, H.fz, h2, ⟨s, f, stp, n, hl, hs, hf, h3, h4⟩, h5⟩

set_option maxRecDepth 100000 in
theorem copy_nil (w : World) : Calls Try.prog 21 #[.pointer none] w fun e w' => e = .returned (.pointer none) ∧ w' = w := by
  go_enter Try.func21, Try.ntmps21
  go_wp2_with fail
  go_ret
  exact ⟨rfl, rfl⟩

end Go.Proofs.Ytkedkeelbbfmkaa
