/-
  grant, settle: walked (stage 14).
-/
import Derived.Test.YtjjhmfpdbjflmaaPFor
import Derived.WalkMore
import Derived.ScopeJumps
import Derived.Deep.CutBlock
namespace Go.Proofs.Ytjjhmfpdbjflmaa
open Go.RowKit
set_option linter.unusedVariables false

theorem mapV_give {A : Lk} (hok : Ok0 A) {x m : Int} (hm : mayB A.c m = true) : mapV (giveL A.hd x m) = updM (mapV A.hd) x (some (.int .u16 (withN (heldL A.hd x) m))) := by
  funext y
  unfold mapV updM
  rw [held_give _ _ _ _ hok.rise]
  by_cases h : y = x
  · rw [if_pos h, if_pos h, if_neg (with_ne (held_u16 hok x) hm)]
  · rw [if_neg h, if_neg h]
theorem mapV_without (hd : PL) (x : Int) : mapV (without hd x) = updM (mapV hd) x none := by
  funext y
  unfold mapV updM
  rw [held_without]
  by_cases h : y = x
  · rw [if_pos h, if_pos h, if_pos rfl]
  · rw [if_neg h, if_neg h]

set_option maxRecDepth 100000 in
set_option maxHeartbeats 8000000 in
theorem grant_is (w : World) (h b : Nat) (s : Value) (n : Nat) (A : Lk) (x m : Int) (hok : Ok0 A) (hx : I64 x) (hm : mayB A.c m = true) (hn : n ≤ 100000) (H : LkM w h b s n A) :
    Calls Try.prog 40 #[.pointer (some ⟨h, 0, none⟩), .agg #[.int .i64 x, .int .u8 m]] w fun e w' => e = .returned (.tuple #[]) ∧ LkM w' h b s (n + 1) ⟨A.c, giveL A.hd x m, A.wt⟩ ∧ Touch (fun k => k = b) w w' := by
  have mixed : Try.prog.follows Departure.mixedOrders = true := by kernel_rfl
  obtain ⟨W1, hW1⟩ : ∃ W1, w.alloc (.cells #[.int .i64 x, .int .u8 m] 65) = W1 := ⟨_, rfl⟩
  obtain ⟨g1, hg1⟩ : ∃ g1, w.heap.size = g1 := ⟨_, rfl⟩
  have hl : Lit W1 g1 65 [.int .i64 x, .int .u8 m] := by rw [← hW1, ← hg1]; exact Lit.new w _ _
  have hb0 : Below w.heap.size w W1 := by rw [← hW1]; exact Below.allocs _ _
  obtain ⟨hv, hhv⟩ : ∃ hv, heldL A.hd x = hv := ⟨_, rfl⟩
  obtain ⟨wv, hwv⟩ : ∃ wv, withN hv m = wv := ⟨_, rfl⟩
  have HL1 := Lib.hid (H.below hb0)
  have HR1 := Lib.hid hl
  have HX := Lib.hid hx
  have HHV := Lib.hid hhv
  have HWV := Lib.hid hwv
  have HM : Hid (U8 m) := Lib.hid (may_u8 hm)
  have HU : Hid (U16 hv) := Lib.hid (by rw [← hhv]; exact held_u16 hok x)
  have HGV := Lib.hid (mapV_give hok (x := x) hm)
  have HB0 := Lib.hid hb0
  have HW1 := Lib.hid hW1
  have HG1 := Lib.hid hg1
  have HN : Hid (n < maxLen) := Lib.hid (by unfold maxLen; omega)
  clear H hl hb0 hhv hwv hx hm hok hW1 hg1 hn
  go_enter Try.func40, Try.ntmps40
  go_upto_region 1 with (fail)
  rw [HW1.out, HG1.out]
  have hdr := below_drw W1
  try simp only [List.append_eq, List.cons_append, List.nil_append]
  refine RX.wp_region_planG 16 (fun w w' => Below w.heap.size w w') [.it (.pointer (some ⟨h, 0, none⟩)), .it (.pointer (some ⟨h, 0, none⟩)), .it (.pointer (some ⟨h, 1, none⟩)), .it (.map (some b)), .it (.pointer (some ⟨g1, 0, none⟩)), .it (.int .i64 x), .it (.pointer (some ⟨h, 0, none⟩)), .it (.pointer (some ⟨h, 0, none⟩)), .it (.pointer (some ⟨h, 1, none⟩)), .it (.map (some b)), .it (.pointer (some ⟨g1, 0, none⟩)), .it (.int .i64 x), .it (.int .u16 hv), .it (.pointer (some ⟨g1, 1, none⟩)), .it (.int .u8 m), .it (.int .u16 wv)] mixed (by kernel_rfl) (fun _ => Below.refl _ _) (fun _ _ _ => below_tr) ?_
  simp only [List.take_succ_cons, List.take_zero, List.drop_succ_cons, List.drop_zero]
  refine RX.seqP_value (fun _ => Below.refl _ _) _ (by first | rfl | simp) (fun w' hw' hctx => by (go_simp); (try first | with_reducible rfl | simp)) ?_
  simp only [Act.put, List.setIfInBounds_toArray, List.set_cons_zero, List.set_cons_succ]
  refine RX.seqP_value (fun _ => Below.refl _ _) _ (by first | rfl | simp) (fun w' hw' hctx => by (go_simp); (try first | with_reducible rfl | simp)) ?_
  simp only [Act.put, List.setIfInBounds_toArray, List.set_cons_zero, List.set_cons_succ]
  refine RX.seqP_value (fun _ => Below.refl _ _) _ (by first | rfl | simp) (fun w' hw' hctx => by (go_simp); (try first | with_reducible rfl | simp)) ?_
  simp only [Act.put, List.setIfInBounds_toArray, List.set_cons_zero, List.set_cons_succ]
  refine RX.seqP_value (fun _ => Below.refl _ _) _ (by first | rfl | simp) (fun w' hw' hctx => ?_) ?_
  · have q := HL1.out.below (below_tr hdr hw')
    obtain ⟨d0, d1, d2, dl⟩ := q.cells
    go_simp
    try first | with_reducible rfl | simp
  simp only [Act.put, List.setIfInBounds_toArray, List.set_cons_zero, List.set_cons_succ]
  refine RX.seqP_value (fun _ => Below.refl _ _) _ (by first | rfl | simp) (fun w' hw' hctx => by (go_simp); (try first | with_reducible rfl | simp)) ?_
  simp only [Act.put, List.setIfInBounds_toArray, List.set_cons_zero, List.set_cons_succ]
  refine RX.seqP_value (fun _ => Below.refl _ _) _ (by first | rfl | simp) (fun w' hw' hctx => ?_) ?_
  · have q := HR1.out.below (below_tr hdr hw')
    have d0 := q.cell (o := 0) rfl
    have d1 := q.cell (o := 1) rfl
    have dl := q.lt
    go_simp
    try first | with_reducible rfl | simp
  simp only [Act.put, List.setIfInBounds_toArray, List.set_cons_zero, List.set_cons_succ]
  refine RX.seqP_value (fun _ => Below.refl _ _) _ (by first | rfl | simp) (fun w' hw' hctx => by (go_simp); (try first | with_reducible rfl | simp)) ?_
  simp only [Act.put, List.setIfInBounds_toArray, List.set_cons_zero, List.set_cons_succ]
  refine RX.seqP_value (fun _ => Below.refl _ _) _ (by first | rfl | simp) (fun w' hw' hctx => by (go_simp); (try first | with_reducible rfl | simp)) ?_
  simp only [Act.put, List.setIfInBounds_toArray, List.set_cons_zero, List.set_cons_succ]
  refine RX.seqP_value (fun _ => Below.refl _ _) _ (by first | rfl | simp) (fun w' hw' hctx => by (go_simp); (try first | with_reducible rfl | simp)) ?_
  simp only [Act.put, List.setIfInBounds_toArray, List.set_cons_zero, List.set_cons_succ]
  refine RX.seqP_value (fun _ => Below.refl _ _) _ (by first | rfl | simp) (fun w' hw' hctx => ?_) ?_
  · have q := HL1.out.below (below_tr hdr hw')
    obtain ⟨d0, d1, d2, dl⟩ := q.cells
    go_simp
    try first | with_reducible rfl | simp
  simp only [Act.put, List.setIfInBounds_toArray, List.set_cons_zero, List.set_cons_succ]
  refine RX.seqP_value (fun _ => Below.refl _ _) _ (by first | rfl | simp) (fun w' hw' hctx => by (go_simp); (try first | with_reducible rfl | simp)) ?_
  simp only [Act.put, List.setIfInBounds_toArray, List.set_cons_zero, List.set_cons_succ]
  refine RX.seqP_value (fun _ => Below.refl _ _) _ (by first | rfl | simp) (fun w' hw' hctx => ?_) ?_
  · have q := HR1.out.below (below_tr hdr hw')
    have d0 := q.cell (o := 0) rfl
    have d1 := q.cell (o := 1) rfl
    have dl := q.lt
    go_simp
    try first | with_reducible rfl | simp
  simp only [Act.put, List.setIfInBounds_toArray, List.set_cons_zero, List.set_cons_succ]
  refine RX.seqP_value (fun _ => Below.refl _ _) _ (by first | rfl | simp) (fun w' hw' hctx => ?_) ?_
  · have q := (HL1.out.below (below_tr hdr hw')).look HX.out
    rw [HHV.out] at q
    go_simp
    try first | with_reducible rfl | simp
  simp only [Act.put, List.setIfInBounds_toArray, List.set_cons_zero, List.set_cons_succ]
  refine RX.seqP_value (fun _ => Below.refl _ _) _ (by first | rfl | simp) (fun w' hw' hctx => by (go_simp); (try first | with_reducible rfl | simp)) ?_
  simp only [Act.put, List.setIfInBounds_toArray, List.set_cons_zero, List.set_cons_succ]
  refine RX.seqP_value (fun _ => Below.refl _ _) _ (by first | rfl | simp) (fun w' hw' hctx => ?_) ?_
  · have q := HR1.out.below (below_tr hdr hw')
    have d0 := q.cell (o := 0) rfl
    have d1 := q.cell (o := 1) rfl
    have dl := q.lt
    go_simp
    try first | with_reducible rfl | simp
  simp only [Act.put, List.setIfInBounds_toArray, List.set_cons_zero, List.set_cons_succ]
  refine RX.seqP_call (61) #[.int .u16 hv, .int .u8 m] (.int .u16 wv) (by first | rfl | simp) (fun w' hw' hctx => ?_) (fun w' hw' hctx => with_is hv m HM.out HU.out w' wv HWV.out) ?_
  · go_simp
  simp only [Act.put, List.setIfInBounds_toArray, List.set_cons_zero, List.set_cons_succ]
  refine RX.seqP_nil (fun w2 hR hctx _ => ?_)
  have hb2 := below_tr hdr hR
  have HL2 := Lib.hid (HL1.out.below hb2)
  have HB2 := Lib.hid hb2
  clear hctx hR hb2 hdr
  unfold RX.lastQ
  go_wp2_with (first | (at_mapUpdate; refine put_f rfl _ _ _ 55 rfl 45 Try.underlying55 b n (mapV A.hd) rfl HL2.out.map HN.out x HX.out rfl (.int .u16 wv) rfl ?_; intro w3 hm3 hg3) | fail)
  have HE := Lib.hid (And.intro hm3 hg3)
  clear hm3 hg3
  go_wp2_with fail
  go_end0
  obtain ⟨hm3, hg3⟩ := HE.out
  have ht3 : Touch (fun k => k = b) w2 w3 := Touch.grown hg3 (fun k hk => (Option.some.inj hk).symm)
  have hst := ht3.stay (G := fun k => k ≠ b) (fun k hk e => hk e)
  have H2 := HL2.out
  refine ⟨rfl, ⟨H2.lit.stay hst (fun e => H2.ne e.symm), ?_, RowF.stay H2.row hst (fun k hk => (H2.own k hk).2), H2.ne, H2.own⟩, ((Touch.of_below HB0.out).trans (Touch.of_below HB2.out) (fun _ _ h => h)).trans ht3 (fun _ _ h => h)⟩
  show MapF w3 b (n + 1) (mapV (giveL A.hd x m))
  rw [HGV.out, HHV.out, HWV.out]
  exact hm3

theorem wp_scope_again {P : Program} {a : Act} {w : World} {Q : Exit → Act → World → Prop} {c rest : Code} (l : Nat) (J : Act → World → Prop) (μ : Act → World → Nat) (hf : findLabel c l = some rest)
    (pass : ∀ a w, J a w → rest.wp P (Exit.jump l (fun a' w' => J a' w' ∧ μ a' w' < μ a w) Q) a w)
    (first : (∀ a w, J a w → rest.wp P (Exit.jump l J Q) a w) → c.wp P (Exit.jump l J Q) a w) : (Code.scope c).wp P Q a w :=
  wp_scope_jumps l J μ hf (first fun a w h => wp_mono (pass a w h) fun e a' w' he => by
    cases e <;> first | exact ⟨he.1, he.2.1⟩ | exact he) pass

/-- How many wait: read where the queue lies. -/
def muS (h : Nat) (w : World) : Nat := match w.cell? ⟨h, 2, none⟩ with
  | some (.slice _ n _) => n
  | _ => 0

/-- What holds at each turn of settle: what has been granted so far, and what is to come. -/
structure SetI (w0 : World) (h b : Nat) (ob : Option Nat) (z c : Int) (zz : Nat) (HD WT : PL) (G : List Int) (hd wt : PL) (s : Value) (n : Nat) (acc : List Int) (w : World) : Prop where
  lk : LkM w h b s n ⟨c, hd, wt⟩
  ok : Ok0 ⟨c, hd, wt⟩
  own : s.ownBlock = ob
  len : n + wt.length ≤ zz
  to1 : (settleL c wt.length hd wt).1 = HD
  to2 : (settleL c wt.length hd wt).2.1 = WT
  to3 : acc ++ (settleL c wt.length hd wt).2.2 = G
  tou : Touch (fun k => k = h ∨ k = b ∨ ob = some k) w0 w
  bound : n + wt.length ≤ 100000 ∧ acc.length + wt.length ≤ 100000

theorem settle_none {c : Int} {hd wt : PL} (h : ∀ pre r post, wt = pre ++ r :: post → forL c hd pre r.1 r.2 ≠ []) : ∀ n, settleL c n hd wt = (hd, wt, [])
  | 0 => rfl
  | n + 1 => by
    have hn : firstU c hd [] wt = none := by
      have := firstU_skip (c := c) (hd := hd) (pre := wt) (bef := []) (l := []) (fun a r b e => by rw [List.nil_append]; exact h a r b e)
      rw [List.append_nil, List.nil_append] at this
      exact this
    unfold settleL
    rw [hn]
theorem settle_some {c : Int} {hd bef l : PL} {r : Int × Int} (h : ∀ pre q post, bef = pre ++ q :: post → forL c hd pre q.1 q.2 ≠ []) (hf : forL c hd bef r.1 r.2 = []) :
    settleL c (bef ++ r :: l).length hd (bef ++ r :: l) = ((settleL c (bef ++ l).length (giveL hd r.1 r.2) (bef ++ l)).1, (settleL c (bef ++ l).length (giveL hd r.1 r.2) (bef ++ l)).2.1, r.1 :: (settleL c (bef ++ l).length (giveL hd r.1 r.2) (bef ++ l)).2.2) := by
  have hn : firstU c hd [] (bef ++ r :: l) = some (bef, r, l) := by
    rw [firstU_skip (fun a q b e => by rw [List.nil_append]; exact h a q b e), List.nil_append, firstU_cons, if_pos hf]
  have hl : (bef ++ r :: l).length = (bef ++ l).length + 1 := by simp; omega
  rw [hl]
  conv => lhs; unfold settleL
  rw [hn]
theorem take_split {wt : PL} {i : Nat} {r : Int × Int} (h : wt[i]? = some r) : wt = wt.take i ++ r :: wt.drop (i + 1) := by
  obtain ⟨hi, e⟩ := List.getElem?_eq_some_iff.1 h
  rw [← e, ← List.drop_eq_getElem_cons hi, List.take_append_drop]
theorem split_take {wt pre post : PL} {r : Int × Int} {i : Nat} (h : wt.take i = pre ++ r :: post) : pre = wt.take pre.length ∧ wt[pre.length]? = some r ∧ pre.length < i := by
  have hl : pre.length < (wt.take i).length := by rw [h]; simp
  have hl2 : pre.length < i := by rw [List.length_take] at hl; omega
  refine ⟨?_, ?_, hl2⟩
  · have := congrArg (List.take pre.length) h
    rw [List.take_take, Nat.min_eq_left (Nat.le_of_lt hl2)] at this
    rw [this]; simp
  · have : (wt.take i)[pre.length]? = some r := by rw [h]; simp
    rwa [List.getElem?_take_of_lt hl2] at this
theorem rowQ_take {W : World} {bq n c i : Nat} {l : PL} (hn : l.length = n) (h : RowQ W (.slice (some ⟨bq, 0, none⟩) n c) l) (hi : i ≤ n) : RowQ W (.slice (some ⟨bq, 0, none⟩) i c) (l.take i) := by
  have h1 := (RowQ.rowP hn h).cut (k := i) hi
  refine (RowP.rowQ h1 ?_).1
  apply List.ext_getElem?
  intro t
  by_cases ht : t < i
  · rw [List.getElem?_map, List.getElem?_range ht, List.getElem?_take_of_lt ht, List.getElem?_eq_getElem (by omega)]
    have : t < l.length := by omega
    simp [this]
  · rw [List.getElem?_eq_none (by simp; omega), List.getElem?_eq_none (by rw [List.length_take]; omega)]

def restOf : Code → Code
  | .seq _ (.scope (.seq _ (.seq _ r))) => r
  | c => c
def SetJ (w0 : World) (h b : Nat) (ob : Option Nat) (c : Int) (zz : Nat) (HD WT : PL) (G : List Int) (a' : Act) (w' : World) : Prop :=
  ∃ (v : Value) (u4 u5 u6 u7 u8 u9 u10 u11 u12 u13 u14 u15 u16 u17 u18 u19 u20 u21 u22 u23 u24 u25 u26 u27 u28 u29 u30 u31 u32 u33 u34 u35 u36 u37 u38 u39 u40 u41 u42 u43 u44 u45 : Value) (hd wt : PL) (s' : Value) (n' : Nat) (acc : List Int), a' = { tmps := #[.pointer (some ⟨h, 0, none⟩), undef, .slice none 0 0, v, u4, u5, u6, u7, u8, u9, u10, u11, u12, u13, u14, u15, u16, u17, u18, u19, u20, u21, u22, u23, u24, u25, u26, u27, u28, u29, u30, u31, u32, u33, u34, u35, u36, u37, u38, u39, u40, u41, u42, u43, u44, u45], defers := [] } ∧ Hid (SetI w0 h b ob 0 c zz HD WT G hd wt s' n' acc w') ∧ Hid (RowI w' v acc) ∧ Hid (∀ k, v.ownBlock = some k → w0.heap.size ≤ k)

theorem mu_is {W : World} {h b n : Nat} {s : Value} {A : Lk} (H : LkM W h b s n A) : muS h W = A.wt.length := by
  obtain ⟨a, c, e, -, -⟩ := H.row.form
  unfold muS
  rw [H.cells.2.2.1, e]

set_option maxRecDepth 100000 in
set_option maxHeartbeats 8000000 in
theorem settle_round (w0 : World) (h b : Nat) (ob : Option Nat) (c : Int) (zz : Nat) (HD WT : PL) (G : List Int) (hlt : ∀ k, (k = h ∨ k = b ∨ ob = some k) → k < w0.heap.size) {Q : Exit → Act → World → Prop} (hQ : ∀ a w' v s' n', a.tmps.getD 2 undef = v → a.defers = [] → RowI w' v G → (∀ k, v.ownBlock = some k → w0.heap.size ≤ k) → LkM w' h b s' n' ⟨c, HD, WT⟩ → s'.ownBlock = ob → n' + WT.length ≤ zz → Touch (fun k => k = h ∨ k = b ∨ ob = some k) w0 w' → Q .ret a w')
    (a : Act) (w : World) (hJ : SetJ w0 h b ob c zz HD WT G a w) : Code.wp Try.prog (restOf (Try.f34.body.getD .skip)) (Exit.jump 0 (fun a' w' => SetJ w0 h b ob c zz HD WT G a' w' ∧ muS h w' < muS h w) Q) a w := by
  have mixed : Try.prog.follows Departure.mixedOrders = true := by kernel_rfl
  obtain ⟨v, u4, u5, u6, u7, u8, u9, u10, u11, u12, u13, u14, u15, u16, u17, u18, u19, u20, u21, u22, u23, u24, u25, u26, u27, u28, u29, u30, u31, u32, u33, u34, u35, u36, u37, u38, u39, u40, u41, u42, u43, u44, u45, hd, wt, s1, n1, acc, rfl, HI, HV, HO⟩ := hJ
  obtain ⟨d0, d1, d2, dl⟩ := HI.out.lk.cells
  obtain ⟨sa, cc, hsf, hsn, hsm⟩ : ∃ sa cc, s1 = .slice sa wt.length cc ∧ wt.length ≤ cc ∧ cc ≤ maxLen := HI.out.lk.row.form
  obtain ⟨k, hk⟩ : ∃ k, wt.length = k := ⟨_, rfl⟩
  rw [hk] at hsf
  subst hsf
  have HK := Lib.hid hk
  have HMU : Hid (muS h w = k) := Lib.hid (by rw [mu_is HI.out.lk]; exact hk)
  have HQ0 := Lib.hid hQ
  have HLT := Lib.hid hlt
  obtain ⟨va, vc, hvf, -, -⟩ := HV.out.form
  obtain ⟨vn, hvn⟩ : ∃ vn, acc.length = vn := ⟨_, rfl⟩
  rw [hvn] at hvf
  subst hvf
  have HVN := Lib.hid hvn
  have hkb : k ≤ 100000 := by have := HI.out.bound.1; omega
  clear hQ hlt hk hsn hsm hvn
  show Code.wp Try.prog (Code.seq (Code.seq _ _) _) _ _ _
  go_wp2_with fail
  go_loopg [3, 4, 5, 11] k (fun gg s3 s4 s5 s11 wr => ∃ (i : Nat), s3 = .slice va vn vc ∧ s11 = .int .i64 i ∧ i ≤ k ∧ k - i ≤ gg ∧ Hid (Below w.heap.size w wr) ∧ Hid (∀ pre r post, wt.take i = pre ++ r :: post → forL c hd pre r.1 r.2 ≠ []))
  case atStart => exact ⟨0, rfl, rfl, Nat.zero_le _, by omega, Lib.hid (Below.refl _ _), Lib.hid (fun pre r post e => by simp at e)⟩
  case round =>
    obtain ⟨i, rfl, rfl, hi, hgg, HB, HP⟩ := hrel
    clear d0 d1 d2 dl
    by_cases hlt : i < k
    · have hltz : (i : Int) < (k : Int) := by omega
      obtain ⟨p, hp⟩ : ∃ p, wt[i]? = some p := ⟨_, List.getElem?_eq_getElem (by rw [HK.out]; exact hlt)⟩
      have hlk := HI.out.lk.below HB.out
      obtain ⟨bq, c', e1, -, -, hbl, c0, c1⟩ := hlk.row.at hp
      have ea : sa = some ⟨bq, 0, none⟩ := by
        simp only [Value.slice.injEq] at e1
        exact e1.1
      subst ea
      have hpm := HI.out.ok.wts p (List.mem_of_getElem? hp)
      have hsp := take_split hp
      have hwnd : (fsts (wt.take i ++ p :: wt.drop (i + 1))).Nodup := by have := HI.out.ok.wnd; rwa [hsp] at this
      have hnm := nodup_mid hwnd
      have hbf : ∀ q ∈ wt.take i, U8 q.2 ∧ q.1 ≠ p.1 := fun q hq => ⟨may_u8 (HI.out.ok.wts q (List.mem_of_mem_take hq)).2.2, fun e => hnm (by rw [← e]; exact fst_mem (List.mem_append.2 (.inl hq)))⟩
      have HPP := Lib.hid hp
      obtain ⟨py, pm⟩ := p
      have HPM : Hid (U8 pm) := Lib.hid (may_u8 hpm.2.2)
      have HPI : Hid (I64 py) := Lib.hid hpm.2.1
      have HPC : Hid (mayB c pm = true) := Lib.hid hpm.2.2
      have HBF := Lib.hid hbf
      have HNN : Hid (n1 + (wt.take i).length ≤ 100000) := Lib.hid (by have := HI.out.bound.1; rw [List.length_take]; omega)
      have hnew := Lit.new wr 65 [.int .i64 py, .int .u8 pm]
      have hal := Below.allocs wr (.cells #[.int .i64 py, .int .u8 pm] 65)
      obtain ⟨W1, hW1⟩ : ∃ W1, wr.alloc (.cells #[.int .i64 py, .int .u8 pm] 65) = W1 := ⟨_, rfl⟩
      obtain ⟨g1, hg1⟩ : ∃ g1, wr.heap.size = g1 := ⟨_, rfl⟩
      have hnew : Lit W1 g1 65 [.int .i64 py, .int .u8 pm] := by rw [← hW1, ← hg1]; exact hnew
      rw [hW1] at hal
      have HNEW := Lib.hid hnew
      have HL1 := Lib.hid (hlk.below hal)
      have HBR := Lib.hid (rowQ_take HK.out (hlk.below hal).row hi)
      have HB1 := Lib.hid (below_tr HB.out hal)
      have HW1 := Lib.hid hW1
      have HG1 := Lib.hid hg1
      have HLTI := Lib.hid (And.intro hlt (And.intro hi hgg))
      have HZ : Hid ((0 : Int) ≤ (i : Int) ∧ (i : Int) < (k : Int)) := Lib.hid ⟨by omega, by omega⟩
      have HZC : Hid (i ≤ cc) := Lib.hid (by obtain ⟨h1, h2⟩ := (RowQ.rowP HK.out HI.out.lk.row).cap; omega)
      clear hlk hp e1 hpm hsp hwnd hnm hbf hnew hal hW1 hg1 hi hgg
      go_upto_region 5 with (fail)
      rw [HW1.out, HG1.out]
      clear c0 c1
      by_cases hf : forL c hd (wt.take i) py pm = []
      · -- nobody is in the way
        have HFR := Lib.hid hf
        have HQ : Hid ((!decide (forL c hd (wt.take i) py pm = [])) = false) := Lib.hid (by rw [decide_eq_true hf]; rfl)
        clear hf
        have hdr := below_drw W1
        try simp only [List.append_eq, List.cons_append, List.nil_append]
        refine RX.wp_region_plan (fun w w' => Below w.heap.size w w') [.it (.pointer (some ⟨h, 0, none⟩)), .it (.agg #[.int .i64 py, .int .u8 pm]), .it (.pointer (some ⟨h, 0, none⟩)), .it (.pointer (some ⟨h, 0, none⟩)), .it (.pointer (some ⟨h, 2, none⟩)), .it (.slice (some ⟨bq, 0, none⟩) k cc), .it (.int .i64 i), .it (.slice (some ⟨bq, 0, none⟩) i cc), .it (.bool false)] (by kernel_rfl) (by kernel_rfl) (fun _ => Below.refl _ _) (fun _ _ _ => below_tr) ?_
        refine RX.seqP_value (fun _ => Below.refl _ _) _ (by first | rfl | simp) (fun w' hw' hctx => by (go_simp); (try first | with_reducible rfl | simp)) ?_
        simp only [Act.put, List.setIfInBounds_toArray, List.set_cons_zero, List.set_cons_succ]
        refine RX.seqP_value (fun _ => Below.refl _ _) _ (by first | rfl | simp) (fun w' hw' hctx => ?_) ?_
        · have q := HNEW.out.below (below_tr hdr hw')
          have d0 := q.cell (o := 0) rfl
          have d1 := q.cell (o := 1) rfl
          have dl := q.lt
          go_simp
          try first | with_reducible rfl | simp
        simp only [Act.put, List.setIfInBounds_toArray, List.set_cons_zero, List.set_cons_succ]
        refine RX.seqP_value (fun _ => Below.refl _ _) _ (by first | rfl | simp) (fun w' hw' hctx => by (go_simp); (try first | with_reducible rfl | simp)) ?_
        simp only [Act.put, List.setIfInBounds_toArray, List.set_cons_zero, List.set_cons_succ]
        refine RX.seqP_value (fun _ => Below.refl _ _) _ (by first | rfl | simp) (fun w' hw' hctx => by (go_simp); (try first | with_reducible rfl | simp)) ?_
        simp only [Act.put, List.setIfInBounds_toArray, List.set_cons_zero, List.set_cons_succ]
        refine RX.seqP_value (fun _ => Below.refl _ _) _ (by first | rfl | simp) (fun w' hw' hctx => by (go_simp); (try first | with_reducible rfl | simp)) ?_
        simp only [Act.put, List.setIfInBounds_toArray, List.set_cons_zero, List.set_cons_succ]
        refine RX.seqP_value (fun _ => Below.refl _ _) _ (by first | rfl | simp) (fun w' hw' hctx => ?_) ?_
        · have q := HL1.out.below (below_tr hdr hw')
          obtain ⟨d0, d1, d2, dl⟩ := q.cells
          go_simp
          try first | with_reducible rfl | simp
        simp only [Act.put, List.setIfInBounds_toArray, List.set_cons_zero, List.set_cons_succ]
        refine RX.seqP_value (fun _ => Below.refl _ _) _ (by first | rfl | simp) (fun w' hw' hctx => by (go_simp); (try first | with_reducible rfl | simp)) ?_
        simp only [Act.put, List.setIfInBounds_toArray, List.set_cons_zero, List.set_cons_succ]
        refine RX.seqP_value (fun _ => Below.refl _ _) _ (by first | rfl | simp) (fun w' hw' hctx => ?_) ?_
        · have z0 := HZ.out.1
          have z1 := HZ.out.2
          have z2 := HZC.out
          go_simp
          try first | with_reducible rfl | simp
        simp only [Act.put, List.setIfInBounds_toArray, List.set_cons_zero, List.set_cons_succ]
        refine RX.seqP_call (39) #[.pointer (some ⟨h, 0, none⟩), .agg #[.int .i64 py, .int .u8 pm], .slice (some ⟨bq, 0, none⟩) i cc] (.bool false) (by first | rfl | simp) (fun w' hw' hctx => ?_) (fun w' hw' hctx => blocked_is w' h b _ n1 _ py pm _ (wt.take i) (HL1.out.below (below_tr hdr hw')) (HBR.out.below (below_tr hdr hw')) HI.out.ok HPM.out HPI.out HBF.out HNN.out false HQ.out) ?_
        · go_simp
        simp only [Act.put, List.setIfInBounds_toArray, List.set_cons_zero, List.set_cons_succ]
        refine RX.seqP_nil (fun w2 hR hctx _ => ?_)
        have hb2 := below_tr hdr hR
        clear hctx hR
        have HL2 := Lib.hid (HL1.out.below hb2)
        have HN2 := Lib.hid (HNEW.out.below hb2)
        have HB2 := Lib.hid (below_tr HB1.out hb2)
        clear hb2 hdr HL1 HNEW HB1 HBR HBF
        obtain ⟨d0, d1, d2, dl⟩ := HL2.out.cells
        obtain ⟨bef, hbe⟩ : ∃ bef, wt.take i = bef := ⟨_, rfl⟩
        obtain ⟨l9, hl9⟩ : ∃ l9, wt.drop (i + 1) = l9 := ⟨_, rfl⟩
        have hsp := take_split HPP.out
        rw [hbe, hl9] at hsp
        have hlb : bef.length = i := by rw [← hbe, List.length_take]; have := HLTI.out.1; have := HK.out; omega
        have hll : i + 1 + l9.length = k := by rw [← hl9, List.length_drop]; have := HLTI.out.1; have := HK.out; omega
        have hrw : RowQ w2 (.slice (some ⟨bq, 0, none⟩) k cc) (bef ++ (py, pm) :: l9) := by rw [← hsp]; exact HL2.out.row
        have HDEL := Lib.hid (delete_in bq k cc i bef l9 (py, pm) hlb hll w2 hkb hrw)
        have HSP := Lib.hid (And.intro hbe (And.intro hsp (And.intro hlb hll)))
        clear hbe hl9 hsp hlb hll hrw
        go_wp2_with fail
        refine HDEL.out.mono ?_
        rintro e w3 ⟨s3, rfl, h3r, h3o, h3t⟩
        have hbo : bq ≠ h ∧ bq ≠ b := HL2.out.own bq rfl
        have hst3 := h3t.stay (G := fun k => k ≠ bq) (fun k hk e => hk e)
        have h3l := HL2.out.lit.stay hst3 (fun e => hbo.1 e.symm)
        have h3m := HL2.out.map.stay hst3 (fun e => hbo.2 e.symm)
        have x0 := h3l.cell (o := 2) rfl
        have xl := h3l.lt
        have xf := h3l.fz 2
        have HT3 : Hid (Touch (fun k => k = bq) w2 w3) := Lib.hid h3t
        have HH3 := Lib.hid (And.intro h3l (And.intro h3m (And.intro h3r (And.intro h3o hbo))))
        have HN3 := Lib.hid (HN2.out.stay hst3 (fun e => by
          have h1 := HN2.out
          rcases HL2.out.row.own.2 with ⟨h4, _⟩ | ⟨g, c9, cur, h4, _, hg, _⟩
          · cases h4
          · simp only [Value.slice.injEq, Option.some.injEq, Addr.mk.injEq] at h4
            have h5 : g = g1 := by rw [← h4.1.1]; exact e.symm
            have h6 := HB.out.size
            have h7 := HI.out.lk.row.lt bq rfl
            have h8 := HG1.out
            omega))
        obtain ⟨s3a, s3c, s3f, -, -⟩ := h3r.form
        obtain ⟨s3n, hs3n⟩ : ∃ s3n, (bef ++ l9).length = s3n := ⟨_, rfl⟩
        rw [hs3n] at s3f
        subst s3f
        have HS3N := Lib.hid hs3n
        have HS3O := Lib.hid h3o
        clear h3t hst3 h3l h3m h3r h3o hbo d0 d1 d2 dl HDEL hs3n
        go_upto_region 7 with (fail)
        obtain ⟨W4, hW4⟩ : ∃ W4, w3.setCell ⟨h, 2, none⟩ (.slice s3a s3n s3c) = W4 := ⟨_, rfl⟩
        have ht4 : Touch (fun k => k = h) w3 W4 := by rw [← hW4]; exact Touch.setCell w3 (F := fun k => k = h) rfl 2 _
        obtain ⟨h3l, h3m, h3r, h3o, hbo⟩ := HH3.out
        have hst4 := ht4.stay (G := fun k => k ≠ h) (fun k hk e => hk e)
        have h4 : LkM W4 h b (.slice s3a s3n s3c) n1 ⟨c, hd, bef ++ l9⟩ := ⟨by rw [← hW4]; exact h3l.set 2 _, h3m.stay hst4 HL2.out.ne, RowQ.stay h3r hst4 (fun k hk => by rw [h3o] at hk; have : bq = k := Option.some.inj hk; rw [← this]; exact hbo.1), HL2.out.ne, fun k hk => by rw [h3o] at hk; have : bq = k := Option.some.inj hk; rw [← this]; exact hbo⟩
        have hok4 : Ok0 ⟨c, hd, bef ++ (py, pm) :: l9⟩ := by have := HI.out.ok; rwa [HSP.out.2.1] at this
        have hfr : forL c hd bef py pm = [] := by have := HFR.out; rwa [HSP.out.1] at this
        have hokg : Ok0 ⟨c, giveL hd py pm, bef ++ l9⟩ := hok4.grant hfr
        have hokb : Ok0 ⟨c, hd, bef ++ l9⟩ := ⟨hok4.cls, hok4.rise, hok4.held, hok4.wnd.sublist ((sub_mid bef l9 (py, pm)).map _), fun p hp => hok4.wts p ((sub_mid bef l9 (py, pm)).subset hp), hok4.go, fun p hp => hok4.ncov p ((sub_mid bef l9 (py, pm)).subset hp)⟩
        have hgr := grant_is W4 h b _ n1 ⟨c, hd, bef ++ l9⟩ py pm hokb HPI.out HPC.out (by have := HI.out.bound.1; omega) h4
        have n4 := HN3.out.stay hst4 (fun e => by
          have h1 := HN3.out
          have h2 := h3l
          unfold Lit at h1 h2
          rw [e, h2] at h1
          cases h1)
        have d0 := n4.cell (o := 0) rfl
        have d1 := n4.cell (o := 1) rfl
        have dl := n4.lt
        have HN4 := Lib.hid n4
        have HGR := Lib.hid hgr
        have HT4 := Lib.hid ht4
        have HOKG := Lib.hid hokg
        have HST : Hid (settleL c wt.length hd wt = ((settleL c (bef ++ l9).length (giveL hd py pm) (bef ++ l9)).1, (settleL c (bef ++ l9).length (giveL hd py pm) (bef ++ l9)).2.1, py :: (settleL c (bef ++ l9).length (giveL hd py pm) (bef ++ l9)).2.2)) := Lib.hid (by
          rw [HSP.out.2.1]
          exact settle_some (r := (py, pm)) (fun pre q post e => HP.out pre q post (by rw [HSP.out.1]; exact e)) hfr)
        rw [hW4]
        clear hW4 ht4 h3l h3m h3r h3o hbo hst4 h4 hok4 hfr hokg hokb hgr n4 x0 xl xf HN3 HH3
        go_wp2_with fail
        refine HGR.out.mono ?_
        rintro e w5 ⟨rfl, h5, ht5⟩
        have hst5 := ht5.stay (G := fun k => k ≠ b) (fun k hk e => hk e)
        have n5 := HN4.out.stay hst5 (fun e => by
          obtain ⟨D9, ⟨es9, cl9, e9, -⟩, -⟩ := HL2.out.map
          have h1 := HN2.out
          unfold Lit at h1
          rw [e, e9] at h1
          cases h1)
        have d0 := n5.cell (o := 0) rfl
        have dl := n5.lt
        have HTT : Hid (Touch (fun k => k = h ∨ k = b ∨ bq = k) w w5) := Lib.hid ((((Touch.of_below HB2.out).trans HT3.out (fun k _ hk => .inr (.inr (by have h1 : k = bq := hk; exact h1.symm)))).trans HT4.out (fun k _ hk => .inl hk)).trans ht5 (fun k _ hk => .inr (.inl hk)))
        have hvr : RowI w5 (.slice va vn vc) acc := RowF.stay HV.out (HTT.out.stay (G := fun k => ¬ (k = h ∨ k = b ∨ bq = k)) (fun k hk => hk)) (fun k hk hx => by
          have h1 := HO.out k hk
          have h2 := HLT.out k (by
            rcases hx with h | h | h
            · exact .inl h
            · exact .inr (.inl h)
            · exact .inr (.inr (by rw [← HI.out.own, h]; rfl)))
          omega)
        obtain ⟨a6, c6, W6, hrun, hrow, ht6, ho6⟩ := row_snoc 35 35 Try.underlying35 hvr py (by have := HI.out.bound.2; omega)
        rw [HVN.out] at hrun hrow ho6
        have HRUN := Lib.hid hrun
        have HE6 := Lib.hid (And.intro hrow (And.intro ht6 ho6))
        have HL5 := Lib.hid h5
        clear hst5 n5 hvr hrun hrow ht6 ho6 h5 ht5 HGR HN4 d1
        go_wp2_with (first | (at_builtin; refine append_stepW rfl _ _ 35 rfl _ _ _ _ rfl rfl HRUN.out ?_) | fail)
        obtain ⟨hrow, ht6, ho6⟩ := HE6.out
        obtain ⟨hbe, hsp, hlb, hll⟩ := HSP.out
        have hob : ob = some bq := by rw [← HI.out.own]; rfl
        have hbl0 : ∀ k, (k = h ∨ k = b ∨ bq = k) → k < w0.heap.size := fun k hk => HLT.out k (by rw [hob]; rcases hk with h | h | h <;> simp [h])
        have hst6 := ht6.stay (G := fun k => k = h ∨ k = b ∨ bq = k) (fun k hk hx => by
          have h1 := HO.out k hx
          have h2 := hbl0 k hk
          omega)
        have hlk6 : LkM W6 h b (.slice s3a s3n s3c) (n1 + 1) ⟨c, giveL hd py pm, bef ++ l9⟩ := HL5.out.stay (hst6.mono (fun k hk => by
          rcases hk with h | h | h
          · exact .inl h
          · exact .inr (.inl h)
          · rw [HS3O.out] at h; exact .inr (.inr (Option.some.inj h))))
        have hwl : wt.length = (bef ++ l9).length + 1 := by rw [hsp]; simp; omega
        have hb1 := HI.out.bound
        have hb2 := HI.out.len
        have htou : Touch (fun k => k = h ∨ k = b ∨ ob = some k) w0 W6 := (HI.out.tou.trans HTT.out (fun k _ hk => by rw [hob]; rcases hk with h | h | h <;> simp [h])).trans ht6 (fun k hk hx => by
          have h1 := HO.out k hx
          omega)
        have hacl : (acc ++ [py]).length + (bef ++ l9).length ≤ 100000 := by
          have : (acc ++ [py]).length = acc.length + 1 := by simp
          omega
        have hst := HST.out
        refine wp_goto ⟨rfl, ⟨_, _, _, _, _, _, _, _, _, _, _, _, _, _, _, _, _, _, _, _, _, _, _, _, _, _, _, _, _, _, _, _, _, _, _, _, _, _, _, _, _, _, _, _, _, _, _, _, rfl, Lib.hid ⟨hlk6, HOKG.out, by rw [HS3O.out, hob], by omega, ?_, ?_, ?_, htou, by omega, hacl⟩, Lib.hid hrow, Lib.hid (fun k hk => ?_)⟩, ?_⟩
        · have := HI.out.to1; rw [hst] at this; exact this
        · have := HI.out.to2; rw [hst] at this; exact this
        · have := HI.out.to3; rw [hst] at this; rw [List.append_assoc]; exact this
        · rcases ho6 k hk with h | h
          · exact HO.out k h
          · exact Nat.le_trans (Nat.le_trans HI.out.tou.size HTT.out.size) h
        · rw [mu_is hlk6, HMU.out, ← HK.out]
          show (bef ++ l9).length < wt.length
          omega
      · have HFR := Lib.hid hf
        have HQ : Hid ((!decide (forL c hd (wt.take i) py pm = [])) = true) := Lib.hid (by rw [decide_eq_false hf]; rfl)
        clear hf
        have hdr := below_drw W1
        try simp only [List.append_eq, List.cons_append, List.nil_append]
        refine RX.wp_region_plan (fun w w' => Below w.heap.size w w') [.it (.pointer (some ⟨h, 0, none⟩)), .it (.agg #[.int .i64 py, .int .u8 pm]), .it (.pointer (some ⟨h, 0, none⟩)), .it (.pointer (some ⟨h, 0, none⟩)), .it (.pointer (some ⟨h, 2, none⟩)), .it (.slice (some ⟨bq, 0, none⟩) k cc), .it (.int .i64 i), .it (.slice (some ⟨bq, 0, none⟩) i cc), .it (.bool true)] (by kernel_rfl) (by kernel_rfl) (fun _ => Below.refl _ _) (fun _ _ _ => below_tr) ?_
        refine RX.seqP_value (fun _ => Below.refl _ _) _ (by first | rfl | simp) (fun w' hw' hctx => by (go_simp); (try first | with_reducible rfl | simp)) ?_
        simp only [Act.put, List.setIfInBounds_toArray, List.set_cons_zero, List.set_cons_succ]
        refine RX.seqP_value (fun _ => Below.refl _ _) _ (by first | rfl | simp) (fun w' hw' hctx => ?_) ?_
        · have q := HNEW.out.below (below_tr hdr hw')
          have d0 := q.cell (o := 0) rfl
          have d1 := q.cell (o := 1) rfl
          have dl := q.lt
          go_simp
          try first | with_reducible rfl | simp
        simp only [Act.put, List.setIfInBounds_toArray, List.set_cons_zero, List.set_cons_succ]
        refine RX.seqP_value (fun _ => Below.refl _ _) _ (by first | rfl | simp) (fun w' hw' hctx => by (go_simp); (try first | with_reducible rfl | simp)) ?_
        simp only [Act.put, List.setIfInBounds_toArray, List.set_cons_zero, List.set_cons_succ]
        refine RX.seqP_value (fun _ => Below.refl _ _) _ (by first | rfl | simp) (fun w' hw' hctx => by (go_simp); (try first | with_reducible rfl | simp)) ?_
        simp only [Act.put, List.setIfInBounds_toArray, List.set_cons_zero, List.set_cons_succ]
        refine RX.seqP_value (fun _ => Below.refl _ _) _ (by first | rfl | simp) (fun w' hw' hctx => by (go_simp); (try first | with_reducible rfl | simp)) ?_
        simp only [Act.put, List.setIfInBounds_toArray, List.set_cons_zero, List.set_cons_succ]
        refine RX.seqP_value (fun _ => Below.refl _ _) _ (by first | rfl | simp) (fun w' hw' hctx => ?_) ?_
        · have q := HL1.out.below (below_tr hdr hw')
          obtain ⟨d0, d1, d2, dl⟩ := q.cells
          go_simp
          try first | with_reducible rfl | simp
        simp only [Act.put, List.setIfInBounds_toArray, List.set_cons_zero, List.set_cons_succ]
        refine RX.seqP_value (fun _ => Below.refl _ _) _ (by first | rfl | simp) (fun w' hw' hctx => by (go_simp); (try first | with_reducible rfl | simp)) ?_
        simp only [Act.put, List.setIfInBounds_toArray, List.set_cons_zero, List.set_cons_succ]
        refine RX.seqP_value (fun _ => Below.refl _ _) _ (by first | rfl | simp) (fun w' hw' hctx => ?_) ?_
        · have z0 := HZ.out.1
          have z1 := HZ.out.2
          have z2 := HZC.out
          go_simp
          try first | with_reducible rfl | simp
        simp only [Act.put, List.setIfInBounds_toArray, List.set_cons_zero, List.set_cons_succ]
        refine RX.seqP_call (39) #[.pointer (some ⟨h, 0, none⟩), .agg #[.int .i64 py, .int .u8 pm], .slice (some ⟨bq, 0, none⟩) i cc] (.bool true) (by first | rfl | simp) (fun w' hw' hctx => ?_) (fun w' hw' hctx => blocked_is w' h b _ n1 _ py pm _ (wt.take i) (HL1.out.below (below_tr hdr hw')) (HBR.out.below (below_tr hdr hw')) HI.out.ok HPM.out HPI.out HBF.out HNN.out true HQ.out) ?_
        · go_simp
        simp only [Act.put, List.setIfInBounds_toArray, List.set_cons_zero, List.set_cons_succ]
        refine RX.seqP_nil (fun w2 hR hctx _ => ?_)
        have hb2 := below_tr hdr hR
        clear hctx hR
        have HB2 := Lib.hid (below_tr HB1.out hb2)
        clear hb2 hdr HL1 HNEW HB1 HBR HBF
        go_wp2_with fail
        go_roundg (k - (i + 1))
        case measure => have := HLTI.out; omega
        case rel =>
          refine ⟨i + 1, rfl, by go_num, by have := HLTI.out; omega, Nat.le_refl _, HB2, Lib.hid (fun pre r post e => ?_)⟩
          obtain ⟨e1, e2, e3⟩ := split_take e
          by_cases hpi : pre.length = i
          · rw [hpi] at e1 e2
            rw [HPP.out] at e2
            cases e2
            rw [e1]
            exact HFR.out
          · have hlt9 : pre.length < i := by omega
            refine HP.out pre r (wt.take i |>.drop (pre.length + 1)) ?_
            have hg : (wt.take i)[pre.length]? = some r := by rw [List.getElem?_take_of_lt hlt9]; exact e2
            have := take_split hg
            rw [List.take_take, Nat.min_eq_left (Nat.le_of_lt hlt9), ← e1] at this
            exact this
    · -- all are blocked
      have hltz : ¬ (i : Int) < (k : Int) := by omega
      have hik : i = k := by omega
      subst hik
      go_wp2_with fail
      have hno := settle_none (c := c) (hd := hd) (wt := wt) (fun pre r post e => HP.out pre r post (by rw [← HK.out, List.take_length]; exact e)) wt.length
      have t1 := HI.out.to1
      have t2 := HI.out.to2
      have t3 := HI.out.to3
      rw [hno] at t1 t2 t3
      dsimp only at t1 t2 t3
      rw [List.append_nil] at t3
      have hb1 := HI.out.len
      have hvb : RowI wr (.slice va vn vc) acc := RowF.below HV.out HB.out
      subst t1 t2 t3
      exact HQ0.out _ _ _ _ _ rfl rfl hvb HO.out (HI.out.lk.below HB.out) HI.out.own hb1 (HI.out.tou.trans (Touch.of_below HB.out) (fun _ _ h => h))

set_option maxRecDepth 100000 in
set_option maxHeartbeats 8000000 in
theorem settle_is (w : World) (h b : Nat) (s : Value) (n : Nat) (A : Lk) (hok : Ok0 A) (hn : n + A.wt.length ≤ 50000) (H : LkM w h b s n A) (HD WT : PL) (G : List Int) (hto : settleL A.c A.wt.length A.hd A.wt = (HD, WT, G)) :
    Calls Try.prog 34 #[.pointer (some ⟨h, 0, none⟩)] w fun e w' => ∃ v, e = .returned v ∧ RowI w' v G ∧ (∀ k, v.ownBlock = some k → w.heap.size ≤ k) ∧ ∃ s' n', LkM w' h b s' n' ⟨A.c, HD, WT⟩ ∧ s'.ownBlock = s.ownBlock ∧ n' + WT.length ≤ n + A.wt.length ∧ Touch (LkF h b s) w w' := by
  have mixed : Try.prog.follows Departure.mixedOrders = true := by kernel_rfl
  have hsi : SetI w h b s.ownBlock 0 A.c (n + A.wt.length) HD WT G A.hd A.wt s n [] w := ⟨H, hok, rfl, Nat.le_refl _, by rw [hto], by rw [hto], by rw [hto]; rfl, Touch.refl _ _, by omega, by simp; omega⟩
  have HS0 := Lib.hid hsi
  have hlt : ∀ k, (k = h ∨ k = b ∨ s.ownBlock = some k) → k < w.heap.size := H.lt
  have HLT := Lib.hid hlt
  clear H hok hn hto hsi hlt
  go_enter Try.func34, Try.ntmps34
  go_wp2_with fail
  have hQ : ∀ (a : Act) (w' : World) (v s' : Value) (n' : Nat), a.tmps.getD 2 undef = v → a.defers = [] → RowI w' v G → (∀ k, v.ownBlock = some k → w.heap.size ≤ k) → LkM w' h b s' n' ⟨A.c, HD, WT⟩ → s'.ownBlock = s.ownBlock → n' + WT.length ≤ n + A.wt.length → Touch (fun k => k = h ∨ k = b ∨ s.ownBlock = some k) w w' → bodyPost Try.prog Try.f34 (fun e w' => ∃ v, e = .returned v ∧ RowI w' v G ∧ (∀ k, v.ownBlock = some k → w.heap.size ≤ k) ∧ ∃ s' n', LkM w' h b s' n' ⟨A.c, HD, WT⟩ ∧ s'.ownBlock = s.ownBlock ∧ n' + WT.length ≤ n + A.wt.length ∧ Touch (LkF h b s) w w') .ret a w' := by
    intro a w' v s' n' h1 h2 h3 h4 h5 h6 h7 h8
    subst h1
    exact bodyPost_ret (results_tmp rfl _ _ _) h2 ⟨_, rfl, h3, h4, s', n', h5, h6, h7, h8⟩
  refine wp_scope_again 0 (SetJ w h b s.ownBlock A.c (n + A.wt.length) HD WT G) (fun _ w' => muS h w') (by rfl) ?pass ?first
  case first =>
    intro again
    go_wp2_with fail
    refine wp_label ?_
    rename_i K9 hK9
    refine hK9 _ _ ?_
    refine wp_mono (settle_round w h b s.ownBlock A.c (n + A.wt.length) HD WT G HLT.out hQ _ _ ⟨_, _, _, _, _, _, _, _, _, _, _, _, _, _, _, _, _, _, _, _, _, _, _, _, _, _, _, _, _, _, _, _, _, _, _, _, _, _, _, _, _, _, _, _, _, _, _, _, rfl, HS0, Lib.hid (RowF.nil _ _ _ _), Lib.hid (fun k hk => (by cases hk))⟩) ?_
    intro e a9 w9 he
    cases e <;> first | exact ⟨he.1, he.2.1⟩ | exact he
  case pass =>
    intro a w1 hj
    exact wp_seq (wp_skip (settle_round w h b s.ownBlock A.c (n + A.wt.length) HD WT G HLT.out hQ a w1 hj))

end Go.Proofs.Ytjjhmfpdbjflmaa
