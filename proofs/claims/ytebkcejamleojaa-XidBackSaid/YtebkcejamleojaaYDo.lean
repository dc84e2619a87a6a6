/-
  Copy, a step: walked (stage 9).
-/
import Derived.Test.YtebkcejamleojaaYCom
namespace Go.Proofs.Ytebkcejamleojaa
open Go.RowKit
set_option linter.unusedVariables false

/-- What comes of a copy of a row. -/
def CloneS (W : World) (n : Nat) (f : Nat → List Value) (e : Ending) (w' : World) : Prop := ∃ a' c', e = .returned (.slice a' n c') ∧ RowF 54 5 w' (.slice a' n c') n f ∧ (∀ k, (Value.slice a' n c').ownBlock = some k → W.heap.size ≤ k) ∧ Below W.heap.size W w'

/-- A copy of a row of records. -/
theorem clone_is (W : World) (a : Option Addr) (n c : Nat) (f : Nat → List Value) (hn : n ≤ 100000) (h1 : ∀ j, j < n → ∀ v ∈ f j, v.oneCell' = true) (h : RowF 54 5 W (.slice a n c) n f) :
    Calls Try.prog 36 #[.slice a n c] W fun e w' => CloneS W n f e w' := by
  cases a with
  | none =>
    have hn0 : n = 0 ∧ c = 0 := by
      obtain ⟨⟨xs, h2, _⟩, _⟩ := h
      rcases h2.2 with ⟨h0, h3⟩ | ⟨g, cap, cur, h0, _⟩
      · simp at h0; exact ⟨h3, h0.2⟩
      · simp at h0
    obtain ⟨rfl, rfl⟩ := hn0
    have hB := Below.refl W.heap.size W
    have HR : Hid (RowF 54 5 W (.slice none 0 0) 0 f) := Lib.hid (RowF.nil _ _ _ _)
    have hq0 : ∀ w, (Go.binOp .eql 50 (.slice none 0 0) (.slice none 0 0)).run Try.prog w = .ok (.bool true) w := fun w => by kernel_rfl
    clear h h1
    go_enter Try.func36, Try.ntmps36
    go_wp2_with fail
    go_ret
    exact ⟨_, _, rfl, HR.out, fun k hk => by simp [Value.ownBlock] at hk, hB⟩
  | some ad =>
    obtain ⟨i0, hi, hz, hsz, hby⟩ := info_parts info_t
    have hal := Below.allocs W (.cells #[] 54)
    have hr0 : RowF 54 5 (W.alloc (.cells #[] 54)) (.slice (some ⟨W.heap.size, 0, none⟩) 0 0) 0 f := ⟨⟨_, World.ownsRow_lit W #[] 0 (Nat.zero_le _) (by decide) rfl, fun j hj => absurd hj (Nat.not_lt_zero j)⟩, fun j hj => absurd hj (Nat.not_lt_zero j)⟩
    have hb : ∃ b, ad = ⟨b, 0, none⟩ := by
      obtain ⟨⟨xs, h2, _⟩, _⟩ := h
      rcases h2.2 with ⟨h0, h3⟩ | ⟨g, cap, cur, h0, _⟩
      · simp at h0
      · simp at h0; exact ⟨g, h0.1⟩
    obtain ⟨b, rfl⟩ := hb
    have h2 := h.below hal
    obtain ⟨s', W', hrun, hrow, hg, hown⟩ := hr0.append (P := Try.prog) 50 50 i0 _ 40 Try.underlying50 hi hz hsz hby rfl (by decide) (by decide) (b := b) (k := n) (c := c) (q := f)
      (fun j hj o v hv => by
        obtain ⟨b', c', e, _, _, _, hat, _⟩ := h2.at hj
        cases e
        exact hat j hj o v hv) h.len h1 (by omega)
    rw [Nat.zero_add] at hrow
    obtain ⟨a2, c2, rfl, _, _⟩ := hrow.form
    have HROW := Lib.hid (hrow.congr (g := f) fun j hj => by simp)
    have HB := Lib.hid (hal.grown hg hal.size (fun k hk => by simp [Value.ownBlock] at hk; omega))
    have HNEW : Hid (∀ k, (Value.slice a2 n c2).ownBlock = some k → W.heap.size ≤ k) := Lib.hid (fun k hk => by
      have := hal.size
      rcases hown with e | e
      · rw [e] at hk; simp [Value.ownBlock] at hk; omega
      · rw [e] at hk; injection hk with hk; omega)
    have HRUN := Lib.hid hrun
    have hq0 : ∀ w, (Go.binOp .eql 50 (.slice (some ⟨b, 0, none⟩) n c) (.slice none 0 0)).run Try.prog w = .ok (.bool false) w := fun w => by kernel_rfl
    clear h h1 h2 hr0 hrun hrow hg hown hal hi hz hsz hby
    go_enter Try.func36, Try.ntmps36
    go_wp2_with (at_builtin; refine append_stepW rfl _ _ 50 rfl _ _ _ _ rfl rfl HRUN.out ?_)
    go_ret
    exact ⟨_, _, rfl, HROW.out, HNEW.out, HB.out⟩

theorem recT_one (T : Tb) (j : Nat) : ∀ v ∈ recT T j, v.oneCell' = true := by
  intro v hv
  simp only [recT, List.mem_cons, List.not_mem_nil, or_false] at hv
  rcases hv with rfl | rfl | rfl | rfl | rfl <;> rfl

set_option maxRecDepth 100000 in
set_option maxHeartbeats 4000000 in
theorem copy_is (w : World) (t : Nat) (T : Tb) (F : Nat → Prop) (hn : T.n ≤ 1000) (h : Is w t T F) :
    Calls Try.prog 20 #[ptrV t] w fun x w' => ∃ t' F', x = .returned (ptrV t') ∧ Is w' t' T F' ∧ (∀ k, F' k → w.heap.size ≤ k) ∧ Below w.heap.size w w' := by
  have mixed : Try.prog.follows Departure.mixedOrders = true := by kernel_rfl
  obtain ⟨s, hr⟩ := h.tab.raw
  obtain ⟨n, hn9⟩ : ∃ n, T.n = n := ⟨_, rfl⟩
  obtain ⟨la, hla9⟩ : ∃ la : Int, (T.last : Int) = la := ⟨_, rfl⟩
  obtain ⟨a, c, e, _, _⟩ := hr.row.form
  rw [hn9] at hr e
  subst e
  rw [hla9] at hr
  have HCL := Lib.hid (clone_is w.drew a n c (recT T) (by omega) (fun j _ => recT_one T j) hr.drew.row)
  have HS0 : Hid (w.drew.cell? ⟨t, 0, none⟩ = some (.slice a n c) ∧ w.drew.cell? ⟨t, 1, none⟩ = some (.int .i64 la)) := Lib.hid ⟨hr.lit.cell rfl, hr.lit.cell rfl⟩
  have HTL : Hid (t < w.heap.size) := Lib.hid hr.lit.lt
  have HOK := Lib.hid h.ok
  have HN := Lib.hid hn9
  have HLA := Lib.hid hla9
  unfold ptrV
  clear h hr hn9 hla9
  go_enter Try.func20, Try.ntmps20
  go_upto_region 3 with (fail)
  refine RX.wp_region_lastH 11 (fun W => W.cell? ⟨t, 0, none⟩ = some (.slice a n c) ∧ W.cell? ⟨t, 1, none⟩ = some (.int .i64 la)) mixed (by kernel_rfl) ?_
  simp only [List.take_succ_cons, List.take_zero, List.drop_succ_cons, List.drop_zero]
  refine wpAnyH_take (i := 0) (oi := _) (v := .pointer (some ⟨t, 0, none⟩)) rfl (by kernel_rfl) (by kernel_rfl) (by kernel_rfl) (fun _ _ _ h => h) (Or.inl ⟨by rfl, fun w' hw' => ?_⟩) (HS0.out) ?_
  · obtain ⟨j0, j1⟩ := hw'
    go_simp
    try first | with_reducible rfl | simp
  refine wpAnyH_take (i := 1) (oi := _) (v := .pointer (some ⟨t, 0, none⟩)) rfl (by kernel_rfl) (by kernel_rfl) (by kernel_rfl) (fun _ _ _ h => h) (Or.inl ⟨by rfl, fun w' hw' => ?_⟩) (HS0.out) ?_
  · obtain ⟨j0, j1⟩ := hw'
    go_simp
    try first | with_reducible rfl | simp
  refine wpAnyH_take (i := 2) (oi := _) (v := .pointer (some ⟨t, 0, none⟩)) rfl (by kernel_rfl) (by kernel_rfl) (by kernel_rfl) (fun _ _ _ h => h) (Or.inl ⟨by rfl, fun w' hw' => ?_⟩) (HS0.out) ?_
  · obtain ⟨j0, j1⟩ := hw'
    go_simp
    try first | with_reducible rfl | simp
  refine wpAnyH_take (i := 3) (oi := _) (v := .slice a n c) rfl (by kernel_rfl) (by kernel_rfl) (by kernel_rfl) (fun _ _ _ h => h) (Or.inl ⟨by rfl, fun w' hw' => ?_⟩) (HS0.out) ?_
  · obtain ⟨j0, j1⟩ := hw'
    go_simp
    try first | with_reducible rfl | simp
  refine wpAnyH_take (i := 5) (oi := _) (v := .pointer (some ⟨t, 0, none⟩)) rfl (by kernel_rfl) (by kernel_rfl) (by kernel_rfl) (fun _ _ _ h => h) (Or.inl ⟨by rfl, fun w' hw' => ?_⟩) (HS0.out) ?_
  · obtain ⟨j0, j1⟩ := hw'
    go_simp
    try first | with_reducible rfl | simp
  refine wpAnyH_take (i := 6) (oi := _) (v := .pointer (some ⟨t, 0, none⟩)) rfl (by kernel_rfl) (by kernel_rfl) (by kernel_rfl) (fun _ _ _ h => h) (Or.inl ⟨by rfl, fun w' hw' => ?_⟩) (HS0.out) ?_
  · obtain ⟨j0, j1⟩ := hw'
    go_simp
    try first | with_reducible rfl | simp
  refine wpAnyH_take (i := 7) (oi := _) (v := .pointer (some ⟨t, 1, none⟩)) rfl (by kernel_rfl) (by kernel_rfl) (by kernel_rfl) (fun _ _ _ h => h) (Or.inl ⟨by rfl, fun w' hw' => ?_⟩) (HS0.out) ?_
  · obtain ⟨j0, j1⟩ := hw'
    go_simp
    try first | with_reducible rfl | simp
  refine wpAnyH_take (i := 8) (oi := _) (v := .int .i64 la) rfl (by kernel_rfl) (by kernel_rfl) (by kernel_rfl) (fun _ _ _ h => h) (Or.inl ⟨by rfl, fun w' hw' => ?_⟩) (HS0.out) ?_
  · obtain ⟨j0, j1⟩ := hw'
    go_simp
    try first | with_reducible rfl | simp
  refine RX.anyH_call (i := 4) (f := 36) (args := #[.slice a n c]) (by kernel_rfl) rfl (by rfl) (by go_simp) ?_
  refine (show Calls Try.prog _ _ _ _ from HCL.out).mono ?_
  rintro e w1 ⟨a2, c2, rfl, hrow, hnew, hb1⟩
  have hbt := below_tr (below_drw w) hb1
  have HS1 : Hid (w1.cell? ⟨t, 0, none⟩ = some (.slice a n c) ∧ w1.cell? ⟨t, 1, none⟩ = some (.int .i64 la)) := Lib.hid (by
    obtain ⟨j0, j1⟩ := HS0.out
    exact ⟨by rw [hb1.cell (p := ⟨t, 0, none⟩) HTL.out]; exact j0, by rw [hb1.cell (p := ⟨t, 1, none⟩) HTL.out]; exact j1⟩)
  have hal := Below.allocs w1 (.cells #[.slice a2 n c2, .int .i64 la] 52)
  have HS2 : Hid ((w1.alloc (.cells #[.slice a2 n c2, .int .i64 la] 52)).cell? ⟨t, 0, none⟩ = some (.slice a n c) ∧ (w1.alloc (.cells #[.slice a2 n c2, .int .i64 la] 52)).cell? ⟨t, 1, none⟩ = some (.int .i64 la)) := Lib.hid (by
    obtain ⟨j0, j1⟩ := HS1.out
    have htl : t < w1.heap.size := Nat.lt_of_lt_of_le HTL.out hb1.size
    exact ⟨by rw [hal.cell (p := ⟨t, 0, none⟩) htl]; exact j0, by rw [hal.cell (p := ⟨t, 1, none⟩) htl]; exact j1⟩)
  have hlt := hrow.lt
  have HEND : Hid (Is (w1.alloc (.cells #[.slice a2 n c2, .int .i64 la] 52)) w1.heap.size T (fun k => k = w1.heap.size ∨ (Value.slice a2 n c2).ownBlock = some k)) := Lib.hid (by
    have hl := Lit.new w1 52 [.slice a2 n c2, .int .i64 la]
    refine ⟨HOK.out, .inl rfl, fun k hk => ?_, .slice a2 n c2, ?_, ?_, fun k hk => ⟨.inr hk, fun e => by have := hlt k hk; omega⟩⟩
    · have := hal.size
      have hsz : (w1.alloc (.cells #[.slice a2 n c2, .int .i64 la] 52)).heap.size = w1.heap.size + 1 := by simp
      rcases hk with rfl | hk
      · omega
      · have := hlt k hk; omega
    · rw [HLA.out]; exact hl
    · rw [HN.out]; exact hrow.below hal)
  have HNEW : Hid (∀ k, (k = w1.heap.size ∨ (Value.slice a2 n c2).ownBlock = some k) → w.heap.size ≤ k) := Lib.hid (fun k hk => by
    have := hbt.size
    rcases hk with rfl | hk
    · exact this
    · exact hnew k hk)
  have HBT := Lib.hid (below_tr hbt hal)
  clear hbt hal hlt hb1 hrow hnew
  refine ⟨_, rfl, HS1.out, ?_⟩
  refine RX.anyH_val (i := 9) (v := .agg #[.slice a2 n c2, .int .i64 la]) (w' := w1) (by kernel_rfl) rfl (by rfl) (by go_simp) (HS1.out) ?_
  refine RX.anyH_val (i := 10) (v := .pointer (some ⟨w1.heap.size, 0, none⟩)) (w' := w1.alloc (.cells #[.slice a2 n c2, .int .i64 la] 52)) (by kernel_rfl) rfl (by rfl) (by go_simp) (HS2.out) ?_
  refine wpAnyH_done (by kernel_rfl) ?_ _
  unfold RX.lastQ
  go_wp2_with fail
  go_ret
  exact ⟨_, _, rfl, HEND.out, HNEW.out, HBT.out⟩

theorem copy_nil (w : World) : Calls Try.prog 20 #[.pointer none] w fun x w' => x = .returned (.pointer none) ∧ Below w.heap.size w w' := by
  have hB := Below.refl w.heap.size w
  go_enter Try.func20, Try.ntmps20
  go_wp2_with fail
  go_ret
  exact ⟨rfl, hB⟩

theorem comT_eq (T : Tb) (kind id : Int) (h0 : kind ≠ 0) (h1 : kind = 1) : T.stp kind id = T.comT id ∧ T.stpI kind id = 0 ∧ T.stpE kind id = T.err id := by
  unfold Tb.stp Tb.stpI Tb.stpE
  rw [if_neg h0, if_neg h0, if_neg h0, if_pos h1]
  exact ⟨rfl, rfl, rfl⟩
theorem aboT_eq (T : Tb) (kind id : Int) (h0 : kind ≠ 0) (h1 : kind ≠ 1) : T.stp kind id = T.aboT id ∧ T.stpI kind id = 0 ∧ T.stpE kind id = T.err id := by
  unfold Tb.stp Tb.stpI Tb.stpE
  rw [if_neg h0, if_neg h0, if_neg h0, if_neg h1]
  exact ⟨rfl, rfl, rfl⟩
theorem begT_eq (T : Tb) (id : Int) : T.stp 0 id = T.begT id ∧ T.stpI 0 id = T.begI id ∧ T.stpE 0 id = T.begE id := by
  unfold Tb.stp Tb.stpI Tb.stpE
  rw [if_pos rfl, if_pos rfl, if_pos rfl]
  exact ⟨rfl, rfl, rfl⟩

set_option maxRecDepth 100000 in
set_option maxHeartbeats 4000000 in
theorem do_is (w : World) (t : Nat) (T : Tb) (F : Nat → Prop) (hn : T.n ≤ 1000) (hla : T.last ≤ 1000) (kind id : Int) (hk : 0 ≤ kind ∧ kind ≤ 255) (hi : I64 id) (h : Is w t T F) :
    Calls Try.prog 23 #[.agg #[.int .u8 kind, .int .i64 id], ptrV t] w fun x w' => ∃ F', x = .returned (.tuple #[.int .i64 (T.stpI kind id), .int .i64 (T.stpE kind id)]) ∧ Is w' t (T.stp kind id) F' ∧ (∀ k, F' k → F k ∨ w.heap.size ≤ k) ∧ Touch F w w' := by
  obtain ⟨g, hg⟩ : ∃ g, w.heap.size = g := ⟨_, rfl⟩
  obtain ⟨W, hW⟩ : ∃ W, w.alloc (.cells #[.int .u8 kind, .int .i64 id] 38) = W := ⟨_, rfl⟩
  have hl : Lit W g 38 [.int .u8 kind, .int .i64 id] := by rw [← hW, ← hg]; exact Lit.new w _ _
  have hb : Below w.heap.size w W := by rw [← hW]; exact Below.allocs _ _
  have c0 := hl.cell (o := 0) rfl
  have c1 := hl.cell (o := 1) rfl
  have glt := hl.lt
  have HW := Lib.hid hW
  have HG := Lib.hid hg
  have hI := h.below hb
  have HB := Lib.hid hb
  by_cases h0 : kind = 0
  · subst h0
    obtain ⟨e1, e2, e3⟩ := begT_eq T id
    rw [e1, e2, e3]
    have HC := Lib.hid (begin_is W t T F (by omega) id hi hI)
    unfold ptrV at HC ⊢
    clear hl hW hb h hI hg e1 e2 e3
    go_enter Try.func23, Try.ntmps23
    go_upto_region 1 with (fail)
    rw [HW.out, HG.out]
    go_wp2_with fail
    refine HC.out.mono ?_
    rintro e w1 ⟨F', rfl, h1, h2, h3⟩
    have H1 := Lib.hid h1
    have H2 : Hid (∀ k, F' k → F k ∨ w.heap.size ≤ k) := Lib.hid (fun k hk => (h2 k hk).imp (fun x => x) (fun x => Nat.le_trans HB.out.size x))
    have H3 := Lib.hid ((Touch.of_below HB.out).trans h3 (fun _ _ h => h))
    clear h1 h2 h3 HC c0 c1 glt
    go_wp2_with fail
    go_ret2
    exact ⟨F', rfl, H1.out, H2.out, H3.out⟩
  · by_cases h1 : kind = 1
    · obtain ⟨e1, e2, e3⟩ := comT_eq T kind id h0 h1
      rw [e1, e2, e3]
      subst h1
      have HC := Lib.hid (commit_is W t T F hn hla id hi hI)
      unfold ptrV at HC ⊢
      clear hl hW hb h hI hg e1 e2 e3
      go_enter Try.func23, Try.ntmps23
      go_upto_region 1 with (fail)
      rw [HW.out, HG.out]
      go_wp2_with fail
      refine HC.out.mono ?_
      rintro e w1 ⟨rfl, h1, h3⟩
      have H1 := Lib.hid h1
      have H3 := Lib.hid ((Touch.of_below HB.out).trans h3 (fun _ _ h => h))
      clear h1 h3 HC c0 c1 glt
      go_wp2_with fail
      go_ret2
      exact ⟨F, rfl, H1.out, fun k hk => .inl hk, H3.out⟩
    · obtain ⟨e1, e2, e3⟩ := aboT_eq T kind id h0 h1
      rw [e1, e2, e3]
      have HC := Lib.hid (abort_is W t T F hn id hi hI)
      unfold ptrV at HC ⊢
      clear hl hW hb h hI hg e1 e2 e3
      go_enter Try.func23, Try.ntmps23
      go_upto_region 1 with (fail)
      rw [HW.out, HG.out]
      go_wp2_with fail
      refine HC.out.mono ?_
      rintro e w1 ⟨rfl, h1, h3⟩
      have H1 := Lib.hid h1
      have H3 := Lib.hid ((Touch.of_below HB.out).trans h3 (fun _ _ h => h))
      clear h1 h3 HC c0 c1 glt
      go_wp2_with fail
      go_ret2
      exact ⟨F, rfl, H1.out, fun k hk => .inl hk, H3.out⟩

end Go.Proofs.Ytebkcejamleojaa
