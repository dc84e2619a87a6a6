/-
  Steps, told by what they are (stage 9).
-/
import Derived.Test.YtbgnbaogclnpgaaYCom
import Derived.Test.YtbgnbaogclnpgaaRegX
namespace Go.Proofs.Ytbgnbaogclnpgaa
open Go.RowKit
theorem comT_eq (T : Tb) (kind id : Int) (h0 : kind ≠ 0) (h1 : kind = 1) : T.stp kind id = T.comT id ∧ T.stpI kind id = 0 ∧ T.stpE kind id = T.err id := by
  unfold Tb.stp Tb.stpI Tb.stpE
  rw [if_neg h0, if_neg h0, if_neg h0, if_pos h1]
  exact ⟨rfl, rfl, rfl⟩
theorem aboT_eq (T : Tb) (kind id : Int) (h0 : kind ≠ 0) (h1 : kind ≠ 1) : T.stp kind id = T.aboT id ∧ T.stpI kind id = 0 ∧ T.stpE kind id = T.err id := by
  unfold Tb.stp Tb.stpI Tb.stpE
  rw [if_neg h0, if_neg h0, if_neg h0, if_neg h1]
  exact ⟨rfl, rfl, rfl⟩
theorem begT_eq (T : Tb) (id : Int) : T.stp 0 id = T.begT id ∧ T.stpI 0 id = T.begI id ∧ T.stpE 0 id = T.begE id := by
  unfold Tb.stp Tb.stpI Tb.stpE
  rw [if_pos rfl, if_pos rfl, if_pos rfl]
  exact ⟨rfl, rfl, rfl⟩

end Go.Proofs.Ytbgnbaogclnpgaa

namespace Go.Proofs.Ytbgnbaogclnpgaa
open Go.RowKit
set_option linter.unusedVariables false

/-- A table that is newer than the world w0, of which what was there is as it was. -/
structure TOne (w0 W : World) (t : Nat) (T : Tb) (F : Nat → Prop) : Prop where
  is : Is W t T F
  far : ∀ k, F k → w0.heap.size ≤ k
  bel : Below w0.heap.size w0 W

section
variable {w0 W W' : World} {t : Nat} {T T' : Tb} {F : Nat → Prop}

theorem TOne.below (h : TOne w0 W t T F) (hb : Below W.heap.size W W') : TOne w0 W' t T F := ⟨h.is.below hb, h.far, below_tr h.bel hb⟩

theorem tone_new (hb : Below w0.heap.size w0 W) : Calls Try.prog 8 #[] W fun e w' => ∃ t F, e = .returned (.pointer (some ⟨t, 0, none⟩)) ∧ TOne w0 w' t Tb.new F ∧ (∀ k, F k → W.heap.size ≤ k) ∧ Below W.heap.size W w' := by
  refine (tnew_is W).mono ?_
  rintro e w' ⟨t, F, rfl, h1, h2, h3⟩
  exact ⟨t, F, rfl, ⟨h1, fun k hk => Nat.le_trans hb.size (h2 k hk), below_tr hb h3⟩, h2, h3⟩

/-- What a call that changes the table leaves. -/
def Next (w0 W : World) (t : Nat) (F : Nat → Prop) (T' : Tb) (v : Value) (e : Ending) (w' : World) : Prop := ∃ F', e = .returned v ∧ TOne w0 w' t T' F' ∧ Touch F W w' ∧ ∀ k, F' k → F k ∨ W.heap.size ≤ k

theorem one_begin (h : TOne w0 W t T F) (hn : T.n ≤ 1000) (p a b : Int) (hp : I64 p) (ha : T.begI p = a) (hb : T.begE p = b) (hT : T.begT p = T') :
    Calls Try.prog 10 #[.pointer (some ⟨t, 0, none⟩), .int .i64 p] W fun e w' => Next w0 W t F T' (.tuple #[.int .i64 a, .int .i64 b]) e w' := by
  refine (begin_is W t T F (by omega) p hp h.is).mono ?_
  rintro e w' ⟨F', rfl, h1, h2, h3⟩
  rw [ha, hb]
  rw [hT] at h1
  exact ⟨F', rfl, ⟨h1, fun k hk => (h2 k hk).elim (h.far k) (Nat.le_trans h.bel.size), h.bel.trans (h3.below h.far h.bel.size)⟩, h3, h2⟩

theorem one_commit (h : TOne w0 W t T F) (hn : T.n ≤ 1000) (hl : T.last ≤ 1000) (id b : Int) (hp : I64 id) (hb : T.err id = b) (hT : T.comT id = T') :
    Calls Try.prog 11 #[.pointer (some ⟨t, 0, none⟩), .int .i64 id] W fun e w' => Next w0 W t F T' (.int .i64 b) e w' := by
  refine (commit_is W t T F hn hl id hp h.is).mono ?_
  rintro e w' ⟨rfl, h1, h3⟩
  rw [hb]
  rw [hT] at h1
  exact ⟨F, rfl, ⟨h1, h.far, h.bel.trans (h3.below h.far h.bel.size)⟩, h3, fun k hk => .inl hk⟩

theorem one_abort (h : TOne w0 W t T F) (hn : T.n ≤ 1000) (id b : Int) (hp : I64 id) (hb : T.err id = b) (hT : T.aboT id = T') :
    Calls Try.prog 12 #[.pointer (some ⟨t, 0, none⟩), .int .i64 id] W fun e w' => Next w0 W t F T' (.int .i64 b) e w' := by
  refine (abort_is W t T F hn id hp h.is).mono ?_
  rintro e w' ⟨rfl, h1, h3⟩
  rw [hb]
  rw [hT] at h1
  exact ⟨F, rfl, ⟨h1, h.far, h.bel.trans (h3.below h.far h.bel.size)⟩, h3, fun k hk => .inl hk⟩

theorem one_state (h : TOne w0 W t T F) (id a : Int) (hi : I64 id) (ha : T.g T.st id = a) : Calls Try.prog 39 #[.pointer (some ⟨t, 0, none⟩), .int .i64 id] W fun e w' => e = .returned (.int .u8 a) ∧ Below W.heap.size W w' := by
  have := st_is W t T F id hi h.is.tab
  rwa [ha] at this
theorem one_top (h : TOne w0 W t T F) (id a : Int) (hi : I64 id) (ha : T.g T.top id = a) : Calls Try.prog 26 #[.pointer (some ⟨t, 0, none⟩), .int .i64 id] W fun e w' => e = .returned (.int .i64 a) ∧ Below W.heap.size W w' := by
  have := top_is W t T F id hi h.is.tab
  rwa [ha] at this
theorem one_counts (h : TOne w0 W t T F) (id : Int) (b : Bool) (hi : I64 id) (hb : T.cnt id = b) : Calls Try.prog 28 #[.pointer (some ⟨t, 0, none⟩), .int .i64 id] W fun e w' => e = .returned (.bool b) ∧ Below W.heap.size W w' := counts_is W t T F id hi h.is.tab b hb
theorem one_number (h : TOne w0 W t T F) (hn : T.n ≤ 1000) (id a : Int) (hi : I64 id) (ha : T.numI id = a) : Calls Try.prog 29 #[.pointer (some ⟨t, 0, none⟩), .int .i64 id] W fun e w' => e = .returned (.int .i64 a) ∧ Below W.heap.size W w' := by
  have := number_is W t T F id hi (by omega) h.is
  rwa [ha] at this
theorem one_last (h : TOne w0 W t T F) (a : Int) (ha : (T.last : Int) = a) : Calls Try.prog 23 #[.pointer (some ⟨t, 0, none⟩)] W fun e w' => e = .returned (.int .i64 a) ∧ Below W.heap.size W w' := by
  have := last_is W t T F h.is.tab
  rwa [ha] at this
theorem tone_len (h : TOne w0 W t T F) (a : Int) (ha : (T.n : Int) = a) : Calls Try.prog 57 #[.pointer (some ⟨t, 0, none⟩)] W fun e w' => e = .returned (.int .i64 a) ∧ Below W.heap.size W w' := by
  have := tlen_is W t T F h.is.tab
  rwa [ha] at this
end

end Go.Proofs.Ytbgnbaogclnpgaa

namespace Go.Proofs.Ytbgnbaogclnpgaa
open Go.RowKit
set_option linter.unusedVariables false

/-- A viewer. -/
def vw (a m : Int) : Value := .agg #[.int .i64 a, .int .i64 m]
/-- It is the viewer's own; the viewer sees its commit; it is visible; it is committed later. -/
def Tb.ownB (T : Tb) (m id : Int) : Bool := T.cnt id && decide (T.g T.top id = m)
def Tb.reachB (T : Tb) (a id : Int) : Bool := decide (0 < T.numI id) && decide (T.numI id ≤ a)
def Tb.seesB (T : Tb) (a m id : Int) : Bool := T.ownB m id || T.reachB a id
def Tb.laterB (T : Tb) (a m id : Int) : Bool := decide (0 < T.numI id) && !T.seesB a m id

/-- A table, or nil, of which all is told as of a table of nothing. -/
def TV (W : World) (v : Value) (T : Tb) : Prop := (∃ t F, v = .pointer (some ⟨t, 0, none⟩) ∧ Is W t T F ∧ T.n ≤ 1000000) ∨ (v = .pointer none ∧ T = Tb.new)

section
variable {w W' : World} {v : Value} {T : Tb}
theorem TV.below (h : TV w v T) (hb : Below w.heap.size w W') : TV W' v T := by
  rcases h with ⟨t, F, e, h1, h2⟩ | h
  · exact .inl ⟨t, F, e, h1.below hb, h2⟩
  · exact .inr h

theorem new_g (f : Nat → Nat) (id : Int) : Tb.new.g f id = 0 := Tb.g_out (by show ¬ (1 ≤ id ∧ id ≤ ((0 : Nat) : Int)); omega)
theorem new_cnt (id : Int) : Tb.new.cnt id = false := by unfold Tb.cnt; rw [new_g]; rfl
theorem new_num (id : Int) : Tb.new.numI id = 0 := by unfold Tb.numI; rw [new_cnt]; rfl

theorem tv_counts (h : TV w v T) (id : Int) (hi : I64 id) (b : Bool) (hb : T.cnt id = b) : Calls Try.prog 28 #[v, .int .i64 id] w fun e w' => e = .returned (.bool b) ∧ Below w.heap.size w w' := by
  rcases h with ⟨t, F, rfl, h1, h2⟩ | ⟨rfl, rfl⟩
  · exact counts_is w t T F id hi h1.tab b hb
  · rw [new_cnt] at hb
    subst hb
    exact counts_nil w id
theorem tv_top (h : TV w v T) (id a : Int) (hi : I64 id) (ha : T.g T.top id = a) : Calls Try.prog 26 #[v, .int .i64 id] w fun e w' => e = .returned (.int .i64 a) ∧ Below w.heap.size w w' := by
  subst ha
  rcases h with ⟨t, F, rfl, h1, h2⟩ | ⟨rfl, rfl⟩
  · exact top_is w t T F id hi h1.tab
  · rw [new_g]
    exact top_nil w id
theorem tv_number (h : TV w v T) (id a : Int) (hi : I64 id) (ha : T.numI id = a) : Calls Try.prog 29 #[v, .int .i64 id] w fun e w' => e = .returned (.int .i64 a) ∧ Below w.heap.size w w' := by
  subst ha
  rcases h with ⟨t, F, rfl, h1, h2⟩ | ⟨rfl, rfl⟩
  · exact number_is w t T F id hi h2 h1
  · rw [new_num]
    exact number_nil w id
theorem tv_last (h : TV w v T) (a : Int) (ha : (T.last : Int) = a) : Calls Try.prog 23 #[v] w fun e w' => e = .returned (.int .i64 a) ∧ Below w.heap.size w w' := by
  subst ha
  rcases h with ⟨t, F, rfl, h1, h2⟩ | ⟨rfl, rfl⟩
  · exact last_is w t T F h1.tab
  · exact last_nil w
end

set_option maxRecDepth 100000 in
set_option maxHeartbeats 2000000 in
theorem own_is (w : World) (v : Value) (T : Tb) (a m id : Int) (hi : I64 id) (h : TV w v T) (b : Bool) (hb : T.ownB m id = b) :
    Calls Try.prog 37 #[vw a m, v, .int .i64 id] w fun e w' => e = .returned (.bool b) ∧ Below w.heap.size w w' := by
  obtain ⟨g, hg⟩ : ∃ g, w.heap.size = g := ⟨_, rfl⟩
  obtain ⟨W, hW⟩ : ∃ W, w.alloc (.cells #[.int .i64 a, .int .i64 m] 34) = W := ⟨_, rfl⟩
  have hl : Lit W g 34 [.int .i64 a, .int .i64 m] := by rw [← hW, ← hg]; exact Lit.new w _ _
  have hb0 : Below w.heap.size w W := by rw [← hW]; exact Below.allocs _ _
  have HW := Lib.hid hW
  have HG := Lib.hid hg
  have HL := Lib.hid hl
  have HV := Lib.hid (h.below hb0)
  have HB := Lib.hid hb0
  have HI := Lib.hid hi
  clear hW hg hl h hb0 hi
  unfold vw
  unfold Tb.ownB at hb
  obtain ⟨c, hc⟩ : ∃ c, T.cnt id = c := ⟨_, rfl⟩
  obtain ⟨tp, htp⟩ : ∃ tp, T.g T.top id = tp := ⟨_, rfl⟩
  rw [hc, htp] at hb
  have HC := Lib.hid hc
  have HTP := Lib.hid htp
  clear hc htp
  cases c with
  | false =>
    have HBV : Hid (b = false) := Lib.hid (by rw [← hb]; rfl)
    clear hb
    go_enter Try.func37, Try.ntmps37
    go_upto_region 1 with (fail)
    rw [HW.out, HG.out]
    have hdr := below_drw W
    try simp only [List.append_eq, List.cons_append, List.nil_append]
    refine RX.wp_region_plan (fun w w' => Below w.heap.size w w') [.it (v), .it (.int .i64 id), .it (.bool false), .it (.bool false), .it undef, .it undef, .it undef, .it undef, .it undef, .it undef, .it (.bool false), .it (.bool false)] (by kernel_rfl) (by kernel_rfl) (fun _ => Below.refl _ _) (fun _ _ _ => below_tr) ?_
    refine RX.seqP_value (fun _ => Below.refl _ _) _ (by first | rfl | simp) (fun w' hw' hctx => by (go_simp); (try first | with_reducible rfl | simp)) ?_
    simp only [Act.put, List.setIfInBounds_toArray, List.set_cons_zero, List.set_cons_succ]
    refine RX.seqP_value (fun _ => Below.refl _ _) _ (by first | rfl | simp) (fun w' hw' hctx => by (go_simp); (try first | with_reducible rfl | simp)) ?_
    simp only [Act.put, List.setIfInBounds_toArray, List.set_cons_zero, List.set_cons_succ]
    refine RX.seqP_call (28) #[v, .int .i64 id] (.bool false) (by first | rfl | simp) (fun w' hw' hctx => ?_) (fun w' hw' hctx => tv_counts (HV.out.below (below_tr hdr hw')) id HI.out false HC.out) ?_
    · go_simp
    simp only [Act.put, List.setIfInBounds_toArray, List.set_cons_zero, List.set_cons_succ]
    refine RX.seqP_value (fun _ => Below.refl _ _) _ (by first | rfl | simp) (fun w' hw' hctx => by (go_simp); (try first | with_reducible rfl | simp)) ?_
    simp only [Act.put, List.setIfInBounds_toArray, List.set_cons_zero, List.set_cons_succ]
    refine RX.seqP_skip (by first | rfl | simp) ?_
    simp only [Act.put, List.setIfInBounds_toArray, List.set_cons_zero, List.set_cons_succ]
    refine RX.seqP_skip (by first | rfl | simp) ?_
    simp only [Act.put, List.setIfInBounds_toArray, List.set_cons_zero, List.set_cons_succ]
    refine RX.seqP_skip (by first | rfl | simp) ?_
    simp only [Act.put, List.setIfInBounds_toArray, List.set_cons_zero, List.set_cons_succ]
    refine RX.seqP_skip (by first | rfl | simp) ?_
    simp only [Act.put, List.setIfInBounds_toArray, List.set_cons_zero, List.set_cons_succ]
    refine RX.seqP_skip (by first | rfl | simp) ?_
    simp only [Act.put, List.setIfInBounds_toArray, List.set_cons_zero, List.set_cons_succ]
    refine RX.seqP_skip (by first | rfl | simp) ?_
    simp only [Act.put, List.setIfInBounds_toArray, List.set_cons_zero, List.set_cons_succ]
    refine RX.seqP_value (fun _ => Below.refl _ _) _ (by first | rfl | simp) (fun w' hw' hctx => by (go_simp); (try first | with_reducible rfl | simp)) ?_
    simp only [Act.put, List.setIfInBounds_toArray, List.set_cons_zero, List.set_cons_succ]
    refine RX.seqP_value (fun _ => Below.refl _ _) _ (by first | rfl | simp) (fun w' hw' hctx => by (go_simp); (try first | with_reducible rfl | simp)) ?_
    simp only [Act.put, List.setIfInBounds_toArray, List.set_cons_zero, List.set_cons_succ]
    refine RX.seqP_nil (fun w2 hR hctx _ => ?_)
    have hb2 := below_tr hdr hR
    clear hctx hR
    have HB2 := Lib.hid (below_tr HB.out hb2)
    clear hb2 hdr
    go_wp2_with fail
    go_ret
    exact ⟨by rw [HBV.out]; rfl, HB2.out⟩
  | true =>
    obtain ⟨q, hq⟩ : ∃ q, (tp == m) = q := ⟨_, rfl⟩
    have HBV : Hid (b = q) := Lib.hid (by rw [← hb, ← hq, Bool.true_and]; rfl)
    have HQ := Lib.hid hq
    clear hb hq
    go_enter Try.func37, Try.ntmps37
    go_upto_region 1 with (fail)
    rw [HW.out, HG.out]
    have hdr := below_drw W
    try simp only [List.append_eq, List.cons_append, List.nil_append]
    refine RX.wp_region_plan (fun w w' => Below w.heap.size w w') [.it (v), .it (.int .i64 id), .it (.bool true), .it (.bool true), .it (v), .it (.int .i64 id), .it (.int .i64 tp), .it (.pointer (some ⟨g, 1, none⟩)), .it (.int .i64 m), .it (.bool q), .it (.bool q), .it (.bool q)] (by kernel_rfl) (by kernel_rfl) (fun _ => Below.refl _ _) (fun _ _ _ => below_tr) ?_
    refine RX.seqP_value (fun _ => Below.refl _ _) _ (by first | rfl | simp) (fun w' hw' hctx => by (go_simp); (try first | with_reducible rfl | simp)) ?_
    simp only [Act.put, List.setIfInBounds_toArray, List.set_cons_zero, List.set_cons_succ]
    refine RX.seqP_value (fun _ => Below.refl _ _) _ (by first | rfl | simp) (fun w' hw' hctx => by (go_simp); (try first | with_reducible rfl | simp)) ?_
    simp only [Act.put, List.setIfInBounds_toArray, List.set_cons_zero, List.set_cons_succ]
    refine RX.seqP_call (28) #[v, .int .i64 id] (.bool true) (by first | rfl | simp) (fun w' hw' hctx => ?_) (fun w' hw' hctx => tv_counts (HV.out.below (below_tr hdr hw')) id HI.out true HC.out) ?_
    · go_simp
    simp only [Act.put, List.setIfInBounds_toArray, List.set_cons_zero, List.set_cons_succ]
    refine RX.seqP_value (fun _ => Below.refl _ _) _ (by first | rfl | simp) (fun w' hw' hctx => by (go_simp); (try first | with_reducible rfl | simp)) ?_
    simp only [Act.put, List.setIfInBounds_toArray, List.set_cons_zero, List.set_cons_succ]
    refine RX.seqP_value (fun _ => Below.refl _ _) _ (by first | rfl | simp) (fun w' hw' hctx => by (go_simp); (try first | with_reducible rfl | simp)) ?_
    simp only [Act.put, List.setIfInBounds_toArray, List.set_cons_zero, List.set_cons_succ]
    refine RX.seqP_value (fun _ => Below.refl _ _) _ (by first | rfl | simp) (fun w' hw' hctx => by (go_simp); (try first | with_reducible rfl | simp)) ?_
    simp only [Act.put, List.setIfInBounds_toArray, List.set_cons_zero, List.set_cons_succ]
    refine RX.seqP_call (26) #[v, .int .i64 id] (.int .i64 tp) (by first | rfl | simp) (fun w' hw' hctx => ?_) (fun w' hw' hctx => tv_top (HV.out.below (below_tr hdr hw')) id tp HI.out HTP.out) ?_
    · go_simp
    simp only [Act.put, List.setIfInBounds_toArray, List.set_cons_zero, List.set_cons_succ]
    refine RX.seqP_value (fun _ => Below.refl _ _) _ (by first | rfl | simp) (fun w' hw' hctx => by (go_simp); (try first | with_reducible rfl | simp)) ?_
    simp only [Act.put, List.setIfInBounds_toArray, List.set_cons_zero, List.set_cons_succ]
    refine RX.seqP_value (fun _ => Below.refl _ _) _ (by first | rfl | simp) (fun w' hw' hctx => ?_) ?_
    · have e1 := (HL.out.below (below_tr hdr hw')).cell (o := 1) rfl
      have e2 := (HL.out.below (below_tr hdr hw')).lt
      go_simp
      try first | with_reducible rfl | simp
    simp only [Act.put, List.setIfInBounds_toArray, List.set_cons_zero, List.set_cons_succ]
    refine RX.seqP_value (fun _ => Below.refl _ _) _ (by first | rfl | simp) (fun w' hw' hctx => ?_) ?_
    · have hq := HQ.out
      go_simp
      try first | with_reducible rfl | simp
    simp only [Act.put, List.setIfInBounds_toArray, List.set_cons_zero, List.set_cons_succ]
    refine RX.seqP_value (fun _ => Below.refl _ _) _ (by first | rfl | simp) (fun w' hw' hctx => by (go_simp); (try first | with_reducible rfl | simp)) ?_
    simp only [Act.put, List.setIfInBounds_toArray, List.set_cons_zero, List.set_cons_succ]
    refine RX.seqP_value (fun _ => Below.refl _ _) _ (by first | rfl | simp) (fun w' hw' hctx => by (go_simp); (try first | with_reducible rfl | simp)) ?_
    simp only [Act.put, List.setIfInBounds_toArray, List.set_cons_zero, List.set_cons_succ]
    refine RX.seqP_nil (fun w2 hR hctx _ => ?_)
    have hb2 := below_tr hdr hR
    clear hctx hR
    have HB2 := Lib.hid (below_tr HB.out hb2)
    clear hb2 hdr
    go_wp2_with fail
    go_ret
    exact ⟨by rw [HBV.out]; rfl, HB2.out⟩

set_option maxRecDepth 100000 in
set_option maxHeartbeats 2000000 in
theorem reaches_is (w : World) (v : Value) (T : Tb) (a m id : Int) (hi : I64 id) (h : TV w v T) (b : Bool) (hb : T.reachB a id = b) :
    Calls Try.prog 53 #[vw a m, v, .int .i64 id] w fun e w' => e = .returned (.bool b) ∧ Below w.heap.size w w' := by
  obtain ⟨g, hg⟩ : ∃ g, w.heap.size = g := ⟨_, rfl⟩
  obtain ⟨W, hW⟩ : ∃ W, w.alloc (.cells #[.int .i64 a, .int .i64 m] 34) = W := ⟨_, rfl⟩
  have hl : Lit W g 34 [.int .i64 a, .int .i64 m] := by rw [← hW, ← hg]; exact Lit.new w _ _
  have hb0 : Below w.heap.size w W := by rw [← hW]; exact Below.allocs _ _
  have HW := Lib.hid hW
  have HG := Lib.hid hg
  have HL := Lib.hid hl
  have HV := Lib.hid (h.below hb0)
  have HB := Lib.hid hb0
  have HI := Lib.hid hi
  clear hW hg hl h hb0 hi
  unfold vw
  unfold Tb.reachB at hb
  obtain ⟨n, hn⟩ : ∃ n, T.numI id = n := ⟨_, rfl⟩
  rw [hn] at hb
  have HN := Lib.hid hn
  clear hn
  by_cases hp : 0 < n
  · have HBV : Hid (decide (n ≤ a) = b) := Lib.hid (by rw [← hb, decide_eq_true hp, Bool.true_and])
    clear hb
    go_enter Try.func53, Try.ntmps53
    go_upto_region 1 with (fail)
    rw [HW.out, HG.out]
    have hcon := tv_number HV.out id n HI.out HN.out
    go_wp2_with fail
    refine (show Calls Try.prog _ _ _ _ from hcon).mono ?_
    rintro e w1 ⟨rfl, hb⟩
    have c0 := (HL.out.below hb).cell (o := 0) rfl
    have clt := (HL.out.below hb).lt
    have HB2 := Lib.hid (below_tr HB.out hb)
    have hbv := HBV.out
    clear hcon hb
    go_wp2_with fail
    go_ret
    exact ⟨rfl, HB2.out⟩
  · have HBV : Hid (b = false) := Lib.hid (by rw [← hb, decide_eq_false hp, Bool.false_and])
    have hp2 : decide (0 < n) = false := decide_eq_false hp
    clear hb
    go_enter Try.func53, Try.ntmps53
    go_upto_region 1 with (fail)
    rw [HW.out, HG.out]
    have hcon := tv_number HV.out id n HI.out HN.out
    go_wp2_with fail
    refine (show Calls Try.prog _ _ _ _ from hcon).mono ?_
    rintro e w1 ⟨rfl, hb⟩
    have HB2 := Lib.hid (below_tr HB.out hb)
    clear hcon hb
    go_wp2_with fail
    go_ret
    exact ⟨by rw [HBV.out]; rfl, HB2.out⟩

/-- The two conditions of Sees. -/
def condV (a m : Int) : List Value := [.func (.func 37) #[vw a m] #[], .func (.func 53) #[vw a m] #[]]

set_option maxRecDepth 100000 in
set_option maxHeartbeats 2000000 in
theorem any_is (w : World) (v : Value) (T : Tb) (a m id : Int) (hi : I64 id) (h : TV w v T) (g : Nat) (e : TypeId) (hg : Lit w g e (condV a m)) (b : Bool) (hb : T.seesB a m id = b) :
    Calls Try.prog 52 #[v, .int .i64 id, .slice (some ⟨g, 0, none⟩) 2 2] w fun e w' => e = .returned (.bool b) ∧ Below w.heap.size w w' := by
  have HV := Lib.hid h
  have HG := Lib.hid hg
  have HI := Lib.hid hi
  have HB := Lib.hid (Below.refl w.heap.size w)
  obtain ⟨p, hp⟩ : ∃ p, T.ownB m id = p := ⟨_, rfl⟩
  obtain ⟨r, hr⟩ : ∃ r, T.reachB a id = r := ⟨_, rfl⟩
  have HBV : Hid (b = (p || r)) := Lib.hid (by rw [← hb, ← hp, ← hr]; rfl)
  have HP := Lib.hid hp
  have HR := Lib.hid hr
  clear h hg hi hb hp hr
  go_enter Try.func52, Try.ntmps52
  go_wp2_with fail
  go_loopg [11] 2 (fun gg s11 wr => ∃ (i : Nat), s11 = .int .i64 i ∧ i ≤ 2 ∧ 2 - i ≤ gg ∧ Hid (i = 0 ∨ (p = false ∧ (i = 1 ∨ r = false))) ∧ Hid (Below w.heap.size w wr))
  case atStart => exact ⟨0, rfl, by omega, by omega, Lib.hid (.inl rfl), HB⟩
  case round =>
    obtain ⟨i, rfl, hin, hgg, HC, HB2⟩ := hrel
    clear HB
    have hcases : i = 0 ∨ i = 1 ∨ i = 2 := by omega
    rcases hcases with rfl | rfl | rfl
    · have q0 := (HG.out.below HB2.out).cell (o := 0) rfl
      have qlt := (HG.out.below HB2.out).lt
      have hcon := own_is wr v T a m id HI.out (HV.out.below HB2.out) p HP.out
      go_wp2_with fail
      refine (show Calls Try.prog _ _ _ _ from hcon).mono ?_
      rintro e w1 ⟨rfl, hb⟩
      have HB3 := Lib.hid (below_tr HB2.out hb)
      clear hcon hb q0 qlt HC
      cases p with
      | true =>
        go_wp2_with fail
        go_ret
        exact ⟨by rw [HBV.out]; rfl, HB3.out⟩
      | false =>
        go_wp2_with fail
        go_roundg 1
        case measure => omega
        case rel => exact ⟨1, rfl, by omega, by omega, Lib.hid (by simp), HB3⟩
    · have q1 := (HG.out.below HB2.out).cell (o := 1) rfl
      have qlt := (HG.out.below HB2.out).lt
      have hp : p = false := HC.out.elim (fun h => by cases h) (fun h => h.1)
      subst hp
      have hcon := reaches_is wr v T a m id HI.out (HV.out.below HB2.out) r HR.out
      go_wp2_with fail
      refine (show Calls Try.prog _ _ _ _ from hcon).mono ?_
      rintro e w1 ⟨rfl, hb⟩
      have HB3 := Lib.hid (below_tr HB2.out hb)
      clear hcon hb q1 qlt HC
      cases r with
      | true =>
        go_wp2_with fail
        go_ret
        exact ⟨by rw [HBV.out]; rfl, HB3.out⟩
      | false =>
        go_wp2_with fail
        go_roundg 0
        case measure => omega
        case rel => exact ⟨2, rfl, by omega, by omega, Lib.hid (by simp), HB3⟩
    · have hr : p = false ∧ r = false := HC.out.elim (fun h => by cases h) (fun h => ⟨h.1, h.2.elim (fun h => by cases h) (fun h => h)⟩)
      obtain ⟨rfl, rfl⟩ := hr
      clear HC
      go_wp2_with fail
      go_ret
      exact ⟨by rw [HBV.out]; rfl, HB2.out⟩

set_option maxRecDepth 100000 in
set_option maxHeartbeats 2000000 in
theorem sees_is (w : World) (v : Value) (T : Tb) (a m id : Int) (hi : I64 id) (h : TV w v T) (b : Bool) (hb : T.seesB a m id = b) :
    Calls Try.prog 36 #[vw a m, v, .int .i64 id] w fun e w' => e = .returned (.bool b) ∧ Below w.heap.size w w' := by
  obtain ⟨g, hg⟩ : ∃ g, w.heap.size = g := ⟨_, rfl⟩
  obtain ⟨W, hW⟩ : ∃ W, w.alloc (.cells #[.int .i64 a, .int .i64 m] 34) = W := ⟨_, rfl⟩
  have hl : Lit W g 34 [.int .i64 a, .int .i64 m] := by rw [← hW, ← hg]; exact Lit.new w _ _
  have hb0 : Below w.heap.size w W := by rw [← hW]; exact Below.allocs _ _
  have HW := Lib.hid hW
  have HG := Lib.hid hg
  have HL := Lib.hid hl
  have HV := Lib.hid (h.below hb0)
  have HB := Lib.hid hb0
  have HI := Lib.hid hi
  clear hW hg hl h hb0 hi
  have HBV := Lib.hid hb
  have c0 := HL.out.cell (o := 0) rfl
  have c1 := HL.out.cell (o := 1) rfl
  have glt := HL.out.lt
  have hal := Below.allocs W (.cells (condV a m).toArray 97)
  have hln := Lit.new W 97 (condV a m)
  obtain ⟨g2, hg2⟩ : ∃ g2, W.heap.size = g2 := ⟨_, rfl⟩
  obtain ⟨W2, hW2⟩ : ∃ W2, W.alloc (.cells (condV a m).toArray 97) = W2 := ⟨_, rfl⟩
  rw [hg2, hW2] at hln
  have HV2 := Lib.hid (HV.out.below hal)
  rw [hW2] at hal HV2
  have HAL := Lib.hid hal
  have hcon := any_is W2 v T a m id HI.out HV2.out g2 _ hln b HBV.out
  have HG2 := Lib.hid hg2
  have HW2 := Lib.hid hW2
  unfold vw
  unfold condV vw at HW2
  clear hb hal hln hg2 hW2 HV
  go_enter Try.func36, Try.ntmps36
  go_upto_region 1 with (fail)
  rw [HW.out, HG.out]
  go_wp2_with fail
  rw [HW2.out, HG2.out]
  refine (show Calls Try.prog _ _ _ _ from hcon).mono ?_
  rintro e w1 ⟨rfl, hb⟩
  have HB3 := Lib.hid (below_tr HB.out (below_tr HAL.out hb))
  clear hcon hb c0 c1 glt
  go_wp2_with fail
  go_ret
  exact ⟨rfl, HB3.out⟩

/-- Both cells of a block are written. -/
def put2 (W : World) (g : Nat) (v0 v1 : Value) : World := (W.setCell ⟨g, 0, none⟩ v0).setCell ⟨g, 1, none⟩ v1
theorem lit_put2 {W : World} {g : Nat} {e : TypeId} {u0 u1 : Value} (h : Lit W g e [u0, u1]) (v0 v1 : Value) : Lit (put2 W g v0 v1) g e [v0, v1] := (h.set 0 v0).set 1 v1
theorem below_put2 {B : Nat} {a W : World} (h : Below B a W) {g : Nat} (hg : B ≤ g) (v0 v1 : Value) : Below B a (put2 W g v0 v1) := (h.setCell (p := ⟨g, 0, none⟩) hg v0).setCell (p := ⟨g, 1, none⟩) hg v1

set_option maxRecDepth 100000 in
set_option maxHeartbeats 2000000 in
theorem now_is (w : World) (v : Value) (T : Tb) (m : Int) (h : TV w v T) (la : Int) (hla : (T.last : Int) = la) :
    Calls Try.prog 9 #[v, .int .i64 m] w fun e w' => e = .returned (vw la m) ∧ Below w.heap.size w w' := by
  obtain ⟨g, hg⟩ : ∃ g, w.heap.size = g := ⟨_, rfl⟩
  obtain ⟨W, hW⟩ : ∃ W, w.alloc (.cells #[.int .i64 0, .int .i64 0] 34) = W := ⟨_, rfl⟩
  have hl : Lit W g 34 [.int .i64 0, .int .i64 0] := by rw [← hW, ← hg]; exact Lit.new w _ _
  have hb0 : Below w.heap.size w W := by rw [← hW]; exact Below.allocs _ _
  have HW := Lib.hid hW
  have HG := Lib.hid hg
  have HL := Lib.hid hl
  have HV := Lib.hid (h.below hb0)
  have HB := Lib.hid hb0
  have HLA := Lib.hid hla
  unfold vw
  clear hW hg hl h hb0 hla
  go_enter Try.func9, Try.ntmps9
  go_upto_region 1 with (fail)
  rw [HW.out, HG.out]
  have hcon := tv_last HV.out la HLA.out
  go_wp2_with fail
  refine (show Calls Try.prog _ _ _ _ from hcon).mono ?_
  rintro e w1 ⟨rfl, hb⟩
  have hl := HL.out.below hb
  have HB2 := Lib.hid (below_put2 (below_tr HB.out hb) (Nat.le_of_eq HG.out) (.int .i64 la) (.int .i64 m))
  have hl2 := lit_put2 hl (.int .i64 la) (.int .i64 m)
  have r0 := hl2.cell (o := 0) rfl
  have r1 := hl2.cell (o := 1) rfl
  have HR := Lib.hid (And.intro r0 r1)
  have z0 := hl.cell (o := 0) rfl
  have z1 := hl.cell (o := 1) rfl
  have f0 := hl.fz 0
  have f1 := hl.fz 1
  clear hcon hb hl hl2 r0 r1
  go_wp2_with fail
  obtain ⟨r0, r1⟩ := HR.out
  exact bodyPost_ret (w := put2 w1 g (.int .i64 la) (.int .i64 m)) (v := .agg #[.int .i64 la, .int .i64 m]) (by simp [results, Try.results9, go_sem, r0, r1]) rfl ⟨rfl, HB2.out⟩

end Go.Proofs.Ytbgnbaogclnpgaa
