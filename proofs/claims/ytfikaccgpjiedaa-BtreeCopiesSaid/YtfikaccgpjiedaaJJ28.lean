/-
  from: its iterator, walked: by induction on the height.
-/
import Derived.Test.YtfikaccgpjiedaaJBIterM
import Derived.Test.YtfikaccgpjiedaaJJ10
import Derived.StillTailTactics
import Derived.WalkKit
import Derived.OwnWalkIn
import Derived.TacticsInMore
import Derived.LoopNIn
import Derived.LoopIn
import Derived.Sort.LoopGhostIn
namespace Go.Proofs.Ytfikaccgpjiedaa
open Go.RowKit Go.Lib

def FromC (h : Nat) : Prop := ∀ (G : CE → Prop) (Ok : List CE → Prop) (n : Kid h) (lo hi l n0 : Nat) (K A : Nat → Prop) (J Jx : (Nat → Prop) → List CE → World → Prop) (p : List CE) (Bn Bk : Nat) (ka : Option Addr) (kc kn : Nat) (key : List Val) (W : World), hi ≤ 7 → Party Try.prog encE (KG G) Ok l n0 J Jx → J A p W → n0 ≤ W.heap.size → Tree h lo hi W K n → (∀ x ∈ allF h n key, G x) →
  (∀ k p, foot h n k p → A k) → (∀ k, K k → A k) → A Bn → A Bk → W.cell? ⟨Bn, 0, none⟩ = some (.pointer (some ⟨kg h n, 0, none⟩)) → W.cell? ⟨Bk, 0, none⟩ = some (.slice ka kn kc) → key.length = kn → SlG A W ka kc key → (∀ q, q <+: allF h n key → Ok (p ++ q)) →
  CallsIn .wide 1 Try.prog 47 #[.func (.yield l) #[] #[], .pointer (some ⟨Bn, 0, none⟩), .pointer (some ⟨Bk, 0, none⟩)] W fun e W' => (∃ v, e = .returned v) ∧ ∃ A' : Nat → Prop, (∀ k, A k → A' k) ∧ (J A' (p ++ allF h n key) W' ∨ ∃ q, q <+: allF h n key ∧ Jx A' (p ++ q) W')

/-- from hands back its closure. -/
theorem from_is (v : Value) (a : Option Addr) (n c : Nat) (w : World) (q : Option Addr) (hv : v = .pointer q) :
    Calls Try.prog 33 #[v, .slice a n c] w fun e w' => e = .returned (.func (.func 47) #[] #[.pointer (some ⟨w.heap.size, 0, none⟩), .pointer (some ⟨w.heap.size + 1, 0, none⟩)]) ∧
      w' = (w.alloc (.cells #[v] 51)).alloc (.cells #[.slice a n c] 27) := by
  subst hv
  go_enter Try.func33, Try.ntmps33
  go_wp2
  go_ret
  exact ⟨rfl, rfl⟩

theorem OwnP.below {α : Type} {n1 : Nat} {I : (Nat → Prop) → List α → World → Prop} (h : OwnP n1 I) {A : Nat → Prop} {p : List α} {W W' : World} (hi : I A p W) (hb : Below W.heap.size W W') : I (fun k => A k ∨ (W.heap.size ≤ k ∧ k < W'.heap.size)) p W' := h.own hi (Touch.of_below hb) (fun _ => Iff.rfl)
theorem OwnP.keep {α : Type} {n1 : Nat} {I : (Nat → Prop) → List α → World → Prop} (h : OwnP n1 I) {A : Nat → Prop} {p : List α} {W W' : World} (hi : I A p W) (ht : Touch (fun k => A k ∧ n1 ≤ k) W W') (hs : W'.heap.size = W.heap.size) : I A p W' := h.own hi ht (fun k => ⟨.inl, fun hx => hx.elim id (fun hx => by omega)⟩)

section
attribute [local go_sem] Oper.semAt_some
attribute [local irreducible] wpStill
set_option maxRecDepth 100000 in
set_option maxHeartbeats 4000000 in
theorem from_leaf_is : FromC 1 := by
  intro G Ok n lo hi l n0 K A J Jx p Bn Bk ka kc kn key W hhi hp hJ hn0 t hG hft hK hBn hBk hcn hck hkn hsl hlen
  change Nd (Kid 0) at n
  change W.cell? ⟨Bn, 0, none⟩ = some (.pointer (some ⟨n.g, 0, none⟩)) at hcn
  have mixed : Try.prog.follows Departure.mixedOrders = true := by kernel_rfl
  obtain ⟨M, hM⟩ : ∃ M, n.es.length = M := ⟨_, rfl⟩
  obtain ⟨NK, hN⟩ : ∃ NK, n.ks.length = NK := ⟨_, rfl⟩
  have hM7 : M ≤ 7 := by rw [← hM]; exact Nat.le_trans t.wf.2.1 hhi
  obtain ⟨i0, hh⟩ := hereK_of t.srtE key
  have hi0 : i0 ≤ M := by have := hh.1; unfold entsC at this; rw [List.length_map, hM] at this; exact this
  have hbw := Below.allocs W (.cells #[.func (.yield l) #[] #[]] 57)
  have hbx := Lit.new W [.func (.yield l) #[] #[]] 57 (by intro v hv; simp at hv; subst hv; rfl)
  rw [show ([Value.func (.yield l) #[] #[]] : List Value).toArray = (#[.func (.yield l) #[] #[]] : Array Value) from rfl] at hbx
  obtain ⟨V, hV⟩ : ∃ V, W.alloc (.cells #[.func (.yield l) #[] #[]] 57) = V := ⟨_, rfl⟩
  obtain ⟨Y, hY⟩ : ∃ Y, W.heap.size = Y := ⟨_, rfl⟩
  rw [hV] at hbw hbx
  rw [hY] at hbx
  have hAlt := hp.j.lt hJ
  have blt := hAlt Bn hBn
  have klt := hAlt Bk hBk
  have hrd : ∀ W', Stay A W W' → W'.cell? ⟨Bn, 0, none⟩ = some (.pointer (some ⟨n.g, 0, none⟩)) ∧ W'.cell? ⟨Bk, 0, none⟩ = some (.slice ka kn kc) ∧ W'.cell? ⟨n.g, 0, none⟩ = some (.slice n.ea M n.ec) ∧ W'.cell? ⟨n.g, 1, none⟩ = some (.slice n.ca NK n.cc) ∧ Tree (1) lo hi W' K n ∧ SlG A W' ka kc key := fun W' hs => by
    have t' := t.stay hs hft hK
    have s := t'.inn.self
    have a0 := s.g0
    have a1 := s.g1
    rw [hM] at a0
    rw [List.length_map, hN] at a1
    exact ⟨by rw [hs.cell blt hBn]; exact hcn, by rw [hs.cell klt hBk]; exact hck, a0, a1, t', hsl.stay hs⟩
  have hbs : ∀ W', Stay A W W' → Calls Try.prog 48 #[.slice n.ea M n.ec, .slice ka kn kc, .func (.func 34) #[] #[]] W' fun e w' => ∃ z : Value, e = .returned (.tuple #[.int .i64 (i0 : Int), z]) ∧ Below W'.heap.size W' w' := fun W' hs => by
    obtain ⟨_, _, _, _, t', hs'⟩ := hrd W' hs
    have er := t'.inn.self.er
    rw [hM] at er
    exact bsk_is n.ea ka n.ec M kc kn n.es key i0 hM (by omega) hkn W' er (fun x hx => (t'.keyE x hx).1.sl) hs'.sl hh
  have HP := Lib.hid hp
  have HJ := Lib.hid hJ
  have HRD := Lib.hid hrd
  have HBS := Lib.hid hbs
  have HV := Lib.hid hV
  have HYY := Lib.hid hY
  have HBW := Lib.hid hbw
  have HBX := Lib.hid hbx
  have HM := Lib.hid (And.intro hM hN)
  have HH := Lib.hid hh
  have HT := Lib.hid t
  have HG := Lib.hid hG
  have HF := Lib.hid (And.intro hft (And.intro hK (And.intro hBn (And.intro hBk (And.intro hkn (And.intro hlen (And.intro hn0 hAlt)))))))
  have hcw := hcn
  clear t hG hrd hbs hV hbw hbx hM hN hh hp hJ hft hK hBn hBk hck hkn hsl hlen hn0 hAlt hY klt hcn
  obtain rfl : NK = 0 := by rw [← HM.out.2, ks_leaf]; rfl
  refine callsIn_of_wp_marks Try.func47 rfl trivial ?_ rfl
  simp only [Try.ntmps47, List.size_toArray, List.length_cons, List.length_nil, Nat.reduceAdd, Nat.reduceSub, Array.replicate_succ, Array.replicate_zero, List.push_toArray, List.append_toArray, List.nil_append, List.cons_append]
  refine wpIn_wide.2 ?_
  go_wp2_with fail
  simp only [HYY.out]
  rw [HV.out]
  clear hcw blt
  have hdr := below_drw V
  try simp only [List.append_eq, List.cons_append, List.nil_append]
  refine RX.wp_region_plan (fun w w' => Below w.heap.size w w') [.it (.pointer (some ⟨n.g, 0, none⟩)), .it (.pointer (some ⟨n.g, 0, none⟩)), .it (.pointer (some ⟨n.g, 0, none⟩)), .it (.slice n.ea M n.ec), .it (.slice ka kn kc), .of (fun _ v => ∃ z : Value, v = .tuple #[.int .i64 (i0 : Int), z]), .of (fun _ v => ∃ z : Value, v = .tuple #[.int .i64 (i0 : Int), z]), .it (.int .i64 (i0 : Int)), .of (fun _ _ => True), .it (.int .i64 (i0 : Int)), .of (fun _ _ => True)] (by kernel_rfl) (by kernel_rfl) (fun _ => Below.refl _ _) (fun _ _ _ => below_tr) ?_
  refine RX.seqP_value (fun _ => Below.refl _ _) _ (by first | rfl | simp) (fun w' hw' hctx => ?_) ?_
  · obtain ⟨c0, c1, c2, c3, _, _⟩ := HRD.out w' (Stay.of_below (below_tr HBW.out (below_tr hdr hw')))
    go_simp
    try first | with_reducible rfl | simp
  simp only [Act.put, List.setIfInBounds_toArray, List.set_cons_zero, List.set_cons_succ]
  refine RX.seqP_value (fun _ => Below.refl _ _) _ (by first | rfl | simp) (fun w' hw' hctx => ?_) ?_
  · go_simp
    try first | with_reducible rfl | simp
  simp only [Act.put, List.setIfInBounds_toArray, List.set_cons_zero, List.set_cons_succ]
  refine RX.seqP_value (fun _ => Below.refl _ _) _ (by first | rfl | simp) (fun w' hw' hctx => ?_) ?_
  · go_simp
    try first | with_reducible rfl | simp
  simp only [Act.put, List.setIfInBounds_toArray, List.set_cons_zero, List.set_cons_succ]
  refine RX.seqP_value (fun _ => Below.refl _ _) _ (by first | rfl | simp) (fun w' hw' hctx => ?_) ?_
  · obtain ⟨c0, c1, c2, c3, _, _⟩ := HRD.out w' (Stay.of_below (below_tr HBW.out (below_tr hdr hw')))
    go_simp
    try first | with_reducible rfl | simp
  simp only [Act.put, List.setIfInBounds_toArray, List.set_cons_zero, List.set_cons_succ]
  refine RX.seqP_value (fun _ => Below.refl _ _) _ (by first | rfl | simp) (fun w' hw' hctx => ?_) ?_
  · obtain ⟨c0, c1, c2, c3, _, _⟩ := HRD.out w' (Stay.of_below (below_tr HBW.out (below_tr hdr hw')))
    go_simp
    try first | with_reducible rfl | simp
  simp only [Act.put, List.setIfInBounds_toArray, List.set_cons_zero, List.set_cons_succ]
  refine RX.seqP_callOf (48) #[.slice n.ea M n.ec, .slice ka kn kc, .func (.func 34) #[] #[]] (fun _ v => ∃ z : Value, v = .tuple #[.int .i64 (i0 : Int), z]) (fun _ _ _ _ h => h) (by first | rfl | simp) (fun w' hw' hctx => ?_) (fun w' hw' hctx => (HBS.out w' (Stay.of_below (below_tr HBW.out (below_tr hdr hw')))).mono fun e w2 ⟨z, he, hb⟩ => ⟨_, he, hb, z, rfl⟩) (fun u5 => ?_)
  · go_simp
  simp only [Act.put, List.setIfInBounds_toArray, List.set_cons_zero, List.set_cons_succ]
  refine RX.seqP_make (fun _ v => ∃ z : Value, v = .tuple #[.int .i64 (i0 : Int), z]) (fun _ _ _ _ h => h) (by first | rfl | simp) (fun w' hw' hctx => ?_) (fun u6 => ?_)
  · exact ⟨u5, w', by go_simp, Below.refl _ _, hctx.1⟩
  simp only [Act.put, List.setIfInBounds_toArray, List.set_cons_zero, List.set_cons_succ]
  refine RX.seqP_value (fun _ => Below.refl _ _) _ (by first | rfl | simp) (fun w' hw' hctx => ?_) ?_
  · obtain ⟨z, rfl⟩ := hctx.1
    go_simp
    try first | with_reducible rfl | simp
  simp only [Act.put, List.setIfInBounds_toArray, List.set_cons_zero, List.set_cons_succ]
  refine RX.seqP_make (fun _ _ => True) (fun _ _ _ _ h => h) (by first | rfl | simp) (fun w' hw' hctx => ?_) (fun u8 => ?_)
  · obtain ⟨z, rfl⟩ := hctx.1
    exact ⟨z, w', by go_simp, Below.refl _ _, trivial⟩
  simp only [Act.put, List.setIfInBounds_toArray, List.set_cons_zero, List.set_cons_succ]
  refine RX.seqP_value (fun _ => Below.refl _ _) _ (by first | rfl | simp) (fun w' hw' hctx => ?_) ?_
  · go_simp
    try first | with_reducible rfl | simp
  simp only [Act.put, List.setIfInBounds_toArray, List.set_cons_zero, List.set_cons_succ]
  refine RX.seqP_make (fun _ _ => True) (fun _ _ _ _ h => h) (by first | rfl | simp) (fun w' hw' hctx => ?_) (fun u10 => ?_)
  · exact ⟨u8, w', by go_simp, Below.refl _ _, trivial⟩
  simp only [Act.put, List.setIfInBounds_toArray, List.set_cons_zero, List.set_cons_succ]
  refine RX.seqP_nil (fun v1 hR hctx _ => ?_)
  have hv1 := below_tr hdr hR
  clear hctx hR
  have HVS := Lib.hid hv1.size
  have HYV : Hid (v1.cell? ⟨Y, 0, none⟩ = some (.func (.yield l) #[] #[])) := Lib.hid (by rw [hv1.cell (p := ⟨Y, 0, none⟩) HBX.out.lt]; exact HBX.out.at' 0 _ rfl)
  -- what stands from here on
  have BV := Lib.hid (below_tr HBW.out hv1)
  clear hv1 hdr
  obtain ⟨A1, hA1⟩ : ∃ A1 : Nat → Prop, A1 = fun k => A k ∨ (W.heap.size ≤ k ∧ k < v1.heap.size) := ⟨_, rfl⟩
  have hsub : ∀ k, A k → A1 k := fun k hk => by rw [hA1]; exact .inl hk
  have hAY : A1 Y := by
    rw [hA1, ← HYY.out]
    exact .inr ⟨Nat.le_refl _, Nat.lt_of_lt_of_le (by rw [HYY.out]; exact HBX.out.lt) (show V.heap.size ≤ v1.heap.size from Nat.le_of_not_lt (fun hx => by have := HVS.out; omega))⟩
  have hJ1 : J A1 p v1 := by rw [hA1]; exact HP.out.j.below HJ.out BV.out
  have hst1 : ∀ w, Stay A1 v1 w → Stay A W w := fun w hs => (Stay.of_below BV.out).trans (hs.mono hsub)
  have hlt1 : ∀ k, A1 k → k < v1.heap.size := HP.out.j.lt hJ1
  have hY1 : v1.cell? ⟨Y, 0, none⟩ = some (.func (.yield l) #[] #[]) := HYV.out
  have hrd : ∀ w, Stay A1 v1 w → w.cell? ⟨Bn, 0, none⟩ = some (.pointer (some ⟨n.g, 0, none⟩)) ∧ w.cell? ⟨Bk, 0, none⟩ = some (.slice ka kn kc) ∧ w.cell? ⟨Y, 0, none⟩ = some (.func (.yield l) #[] #[]) ∧ w.cell? ⟨n.g, 0, none⟩ = some (.slice n.ea M n.ec) ∧ w.cell? ⟨n.g, 1, none⟩ = some (.slice n.ca 0 n.cc) := fun w hs => by
    obtain ⟨c0, c1, c2, c3, _, _⟩ := HRD.out w (hst1 w hs)
    exact ⟨c0, c1, by rw [hs.cell (hlt1 Y hAY) hAY]; exact hY1, c2, c3⟩
  have hup : upto 0 n key i0 = [] := upto_start HT.out HH.out
  have HJ1 : Hid (J A1 (p ++ upto 0 n key i0) v1) := Lib.hid (by rw [hup, List.append_nil]; exact hJ1)
  have HR := Lib.hid hrd
  have HST := Lib.hid hst1
  have HSUB := Lib.hid hsub
  have HLT := Lib.hid hlt1
  have HA1 := Lib.hid hA1
  clear hA1 hsub hAY hJ1 hst1 hlt1 hY1 hrd hup
  go_wp2_with fail
  refine (wpIn_wide (n := 1)).1 ?_
  refine wpIn_loop_ghost_k (fun gg a w => ∃ (v6 v20 v21 v22 v23 v24 v25 v26 v27 v28 v29 v30 v31 v32 v33 v34 v35 v36 v37 v38 v39 v40 v46 v47 v48 v49 v50 v51 v52 v53 v54 v55 v56 v57 v58 v59 v60 v61 v62 v63 v64 : Value) (ds : List Deferred), (∃ (i : Nat) (A' : Nat → Prop) (Ds : List Nat), v6 = .int .i64 (i : Int) ∧ i0 ≤ i ∧ i ≤ M + 1 ∧ M + 1 - i ≤ gg ∧ Hid (J A' (p ++ upto 0 n key i) w) ∧ Hid (∀ k, A1 k → A' k) ∧ Hid (Stay A1 v1 w) ∧ Hid (Marks A' n0 w ds Ds) ∧ Hid (∀ D ∈ Ds, v1.heap.size ≤ D)) ∧ a = { tmps := #[.func (.yield l) #[] #[], .pointer (some ⟨Bn, 0, none⟩), .pointer (some ⟨Bk, 0, none⟩), .pointer (some ⟨Y, 0, none⟩), .int .i64 (i0 : Int), u10, v6, undef, .pointer (some ⟨n.g, 0, none⟩), .bool false, u6, .pointer (some ⟨n.g, 0, none⟩), .pointer (some ⟨n.g, 0, none⟩), .pointer (some ⟨n.g, 0, none⟩), .slice n.ea M n.ec, .slice ka kn kc, u5, .int .i64 (i0 : Int), u8, .int .i64 (i0 : Int), v20, v21, v22, v23, v24, v25, v26, v27, v28, v29, v30, v31, v32, v33, v34, v35, v36, v37, v38, v39, v40, undef, undef, undef, undef, undef, v46, v47, v48, v49, v50, v51, v52, v53, v54, v55, v56, v57, v58, v59, v60, v61, v62, v63, v64], defers := ds }) (M + 1) ?_ ?_
  · refine ⟨_, _, _, _, _, _, _, _, _, _, _, _, _, _, _, _, _, _, _, _, _, _, _, _, _, _, _, _, _, _, _, _, _, _, _, _, _, _, _, _, _, _, ⟨i0, A1, [], rfl, Nat.le_refl _, by omega, by omega, HJ1, Lib.hid (fun _ hk => hk), Lib.hid (Stay.refl _ _), Lib.hid (Marks.nil _ _ _), Lib.hid (fun _ hx => absurd hx List.not_mem_nil)⟩, rfl⟩
  intro gg _ w hinv
  obtain ⟨v6, v20, v21, v22, v23, v24, v25, v26, v27, v28, v29, v30, v31, v32, v33, v34, v35, v36, v37, v38, v39, v40, v46, v47, v48, v49, v50, v51, v52, v53, v54, v55, v56, v57, v58, v59, v60, v61, v62, v63, v64, ds, ⟨i, A', Ds, rfl, hi1, hiM, hgg, HJi, HA, HS, HMK, HD⟩, rfl⟩ := hinv
  intro _ _ _ _
  dsimp only
  by_cases hlt : i ≤ M
  · have hltz : (i : Int) ≤ (M : Int) := by omega
    obtain ⟨c0, c1, c2, c3, c4⟩ := HR.out w HS.out
    have blt := World.block_lt_of_cell? _ _ c0
    have glt := World.block_lt_of_cell? _ _ c3
    have hlf := leaf_is n.g 0 n.cc n.ca true (by decide) w c4
    have HLF := Lib.hid hlf
    clear hlf
    refine wpIn_wide.2 ?_
    go_wp2_with fail
    refine HLF.out.mono ?_
    rintro e w2 ⟨rfl, hb2⟩
    obtain ⟨A2, hA2⟩ : ∃ A2 : Nat → Prop, A2 = fun k => A' k ∨ (w.heap.size ≤ k ∧ k < w2.heap.size) := ⟨_, rfl⟩
    obtain ⟨Q, hQ⟩ : ∃ Q, upto 0 n key i = Q := ⟨_, rfl⟩
    have HJ2 : Hid (J A2 (p ++ Q) w2) := Lib.hid (by rw [hA2, ← hQ]; exact HP.out.j.below HJi.out hb2)
    have HA2 : Hid (∀ k, A1 k → A2 k) := Lib.hid (fun k hk => by rw [hA2]; exact .inl (HA.out k hk))
    have HS2 : Hid (Stay A1 v1 w2) := Lib.hid (HS.out.trans (Stay.of_below hb2))
    have HMK2 : Hid (Marks A2 n0 w2 ds Ds) := Lib.hid (HMK.out.stay (fun k hk => by rw [hA2]; exact .inl hk) (Stay.of_below hb2))
    have HQ1 : Hid (∀ x, n.es[i]? = some x → gek key x = true → upto 0 n key (i + 1) = Q ++ [x]) := Lib.hid (fun x hx hg => by
      rw [upto_entry (cs_leaf (by rw [HM.out.1]; exact hlt)) hx hg, hQ]
      rfl)
    have HQ2 : Hid (i = M → upto 0 n key (i + 1) = Q) := Lib.hid (fun e => by
      subst e
      have h1 := upto_last HT.out (key := key) (cs_leaf (Nat.le_refl _))
      rw [HM.out.1, hQ] at h1
      rw [h1]
      exact List.append_nil _)
    clear hA2 hQ hb2 c0 c1 c2 c3 c4 blt glt HLF
    go_wp2_with fail
    by_cases hlt2 : i < M
    · have hltz2 : (i : Int) < (M : Int) := by omega
      have hd : decide ((i : Int) < (M : Int)) = true := decide_eq_true hltz2
      have z1 : ¬ M ≤ i := by omega
      obtain ⟨x, hx⟩ : ∃ x, n.es[i]? = some x := ⟨n.es[i]'(by rw [HM.out.1]; exact hlt2), by simp⟩
      have t' := (HRD.out w2 (HST.out w2 HS2.out)).2.2.2.2.1
      have er := t'.inn.self.er
      rw [HM.out.1] at er
      obtain ⟨eb, eo, hea, d0, d1, _, _, dlt⟩ := ent_at er hx
      obtain ⟨c0, c1, c2, c3, c4⟩ := HR.out w2 HS2.out
      have blt := World.block_lt_of_cell? _ _ c0
      have ylt := World.block_lt_of_cell? _ _ c2
      have glt := World.block_lt_of_cell? _ _ c3
      rw [hea] at c3
      clear hea
      have hge : gek key x = true := by
        have := HH.out.2.2 i x.e hi1 (ents_get hx)
        simp [gek, this]
      have hu := HQ1.out x hx hge
      have hkx := t'.keyE x (List.mem_of_getElem? hx)
      have hJd : J A2 (p ++ Q) w2.drew := HP.out.j.keep HJ2.out (Touch.of_below (below_drw w2)) rfl
      have hGx : G x := HG.out x (by
        have h1 := (upto_here HT.out (key := key) (i := i + 1) (by rw [HM.out.1]; omega)).subset
        rw [hu] at h1
        exact h1 (by simp))
      have hTx : KG G A2 w2.drew x := ⟨(hkx.stay (Stay.of_below (below_drw w2))).mono (fun k hk => HA2.out k (HSUB.out k (HF.out.2.1 k hk))), hGx⟩
      have hpl : Ok ((p ++ Q) ++ [x]) := by
        have h1 := HF.out.2.2.2.2.2.1 _ (upto_here HT.out (key := key) (i := i + 1) (by rw [HM.out.1]; omega))
        rw [hu] at h1
        rw [List.append_assoc]
        exact h1
      obtain ⟨fn, tmps, assign, body, hy, hR⟩ := HP.out.turn A2 (p ++ Q) x w2.drew hJd hTx hpl
      have HU := Lib.hid hu
      have HX := Lib.hid hx
      have HR2 := Lib.hid hR
      simp only [encE] at hy
      clear hge hkx hGx hJd hTx hpl hu hx er t' hR
      refine (wpIn_wide (n := 1)).1 ?_
      refine RX.wpIn_region_still_tail (r := none) 16 mixed (by kernel_rfl) (by kernel_rfl) ?_
      simp only [List.take_succ_cons, List.take_zero, List.drop_succ_cons, List.drop_zero]
      iterate 16 (with_reducible apply wpStill_step; intro K hK; go_simp; with_reducible apply hK; clear hK K)
      with_reducible apply wpStill_nil
      change wpListIn Fence.wide _ _ _ _ _ _ w2.drew
      clear c0 c1 c2 c3 c4 blt ylt glt d0 d1 dlt hd
      gi_wp2_with fail
      refine HR2.out.mono ?_
      rintro e w3 (⟨rfl, hJ3, hst3⟩ | ⟨rfl, hJ3, hst3⟩)
      · have HJ3 : Hid (J A2 (p ++ upto 0 n key (i + 1)) w3) := Lib.hid (by rw [HU.out, ← List.append_assoc]; exact hJ3)
        have hsw : Stay A2 w2 w3 := (Stay.of_below (below_drw w2)).trans hst3
        have HS3 : Hid (Stay A1 v1 w3) := Lib.hid (HS2.out.trans (hsw.mono HA2.out))
        have HMK3 := Lib.hid (HMK2.out.stay (fun _ h => h) hsw)
        clear hJ3 hst3 hsw hy
        gi_wp2_with fail
        go_wp2_with fail
        gi_roundg (M + 1 - (i + 1))
        case measure => omega
        case rel => exact ⟨i + 1, A2, Ds, by go_num, by omega, by omega, Nat.le_refl _, HJ3, HA2, HS3, HMK3, HD⟩
      · have HJ3 : Hid (Jx A2 (p ++ upto 0 n key (i + 1)) w3) := Lib.hid (by rw [HU.out, ← List.append_assoc]; exact hJ3)
        have hsw : Stay A2 w2 w3 := (Stay.of_below (below_drw w2)).trans hst3
        have HMKE := Lib.hid (HMK2.out.stay (fun _ h => h) hsw)
        have HAE : Hid (∀ k, A k → A2 k) := Lib.hid (fun k hk => HA2.out k (HSUB.out k hk))
        have HPR := Lib.hid (upto_here HT.out (key := key) (i := i + 1) (by rw [HM.out.1]; omega))
        clear hJ3 hst3 hsw hy
        gi_wp2_with fail
        go_wp2_with fail
        refine HMKE.out.leaves fun W' ht hs => ⟨.tuple #[], by simp [results, Try.results47, go_sem], ⟨_, rfl⟩, A2, HAE.out, .inr ⟨_, HPR.out, HP.out.x.keep HJ3.out ht hs⟩⟩
    · have heM : i = M := by omega
      have hltz2 : ¬ (i : Int) < (M : Int) := by omega
      have hd : decide ((i : Int) < (M : Int)) = false := decide_eq_false hltz2
      obtain ⟨c0, c1, c2, c3, c4⟩ := HR.out w2 HS2.out
      have blt := World.block_lt_of_cell? _ _ c0
      have glt := World.block_lt_of_cell? _ _ c3
      have HJ3 : Hid (J A2 (p ++ upto 0 n key (i + 1)) w2.drew) := Lib.hid (by rw [HQ2.out heM]; exact HP.out.j.keep HJ2.out (Touch.of_below (below_drw w2)) rfl)
      have HS3 : Hid (Stay A1 v1 w2.drew) := Lib.hid (HS2.out.trans (Stay.of_below (below_drw w2)))
      have HMK3 := Lib.hid (HMK2.out.stay (fun _ h => h) (Stay.of_below (below_drw w2)))
      clear heM
      refine (wpIn_wide (n := 1)).1 ?_
      refine RX.wpIn_region_still_tail (r := none) 16 mixed (by kernel_rfl) (by kernel_rfl) ?_
      simp only [List.take_succ_cons, List.take_zero, List.drop_succ_cons, List.drop_zero]
      iterate 16 (with_reducible apply wpStill_step; intro K hK; go_simp; with_reducible apply hK; clear hK K)
      with_reducible apply wpStill_nil
      change wpListIn Fence.wide _ _ _ _ _ _ w2.drew
      clear c0 c1 c2 c3 c4 blt glt hd
      gi_wp2_with fail
      refine ⟨fun _ h => (by cases h), ?_⟩
      gi_wp2_with fail
      go_wp2_with fail
      gi_roundg (M + 1 - (i + 1))
      case measure => omega
      case rel => exact ⟨i + 1, A2, Ds, by go_num, by omega, by omega, Nat.le_refl _, HJ3, HA2, HS3, HMK3, HD⟩
  · obtain rfl : i = M + 1 := by omega
    have hltz : ¬ ((M : Int) + 1) ≤ (M : Int) := by omega
    obtain ⟨c0, c1, c2, c3, c4⟩ := HR.out w HS.out
    have blt := World.block_lt_of_cell? _ _ c0
    have glt := World.block_lt_of_cell? _ _ c3
    have HJE : Hid (J A' (p ++ allF 1 n key) w) := Lib.hid (by have := HJi.out; rw [← HM.out.1, upto_end] at this; exact this)
    have HMKE := HMK
    have HAE : Hid (∀ k, A k → A' k) := Lib.hid (fun k hk => HA.out k (HSUB.out k hk))
    gi_wp2_with fail
    refine HMKE.out.leaves fun W' ht hs => ⟨.tuple #[], by simp [results, Try.results47, go_sem], ⟨_, rfl⟩, A', HAE.out, .inl (HP.out.j.keep HJE.out ht hs)⟩
end
end Go.Proofs.Ytfikaccgpjiedaa

/-
  from: its iterator, walked: a node that has children.
-/
namespace Go.Proofs.Ytfikaccgpjiedaa
open Go.RowKit Go.Lib

/-- What from hands back, and what it leans on. -/
def FromV (b : Nat) (v0 : Value) (ka : Option Addr) (kn kc : Nat) (W : World) (v : Value) : Prop :=
  ∃ B, v = .func (.func 47) #[] #[.pointer (some ⟨B, 0, none⟩), .pointer (some ⟨B + 1, 0, none⟩)] ∧ b ≤ B ∧ W.cell? ⟨B, 0, none⟩ = some v0 ∧ W.cell? ⟨B + 1, 0, none⟩ = some (.slice ka kn kc)

theorem FromV.below {b : Nat} {v0 : Value} {ka : Option Addr} {kn kc : Nat} {W W' : World} {v : Value} (hb : Below W.heap.size W W') (h : FromV b v0 ka kn kc W v) : FromV b v0 ka kn kc W' v := by
  obtain ⟨B, h1, h2, h3, h4⟩ := h
  exact ⟨B, h1, h2, by rw [hb.cell (p := ⟨B, 0, none⟩) (World.block_lt_of_cell? _ _ h3)]; exact h3, by rw [hb.cell (p := ⟨B + 1, 0, none⟩) (World.block_lt_of_cell? _ _ h4)]; exact h4⟩

theorem from_of (b : Nat) (q : Option Addr) (ka : Option Addr) (kn kc : Nat) (w : World) (hb : b ≤ w.heap.size) :
    Calls Try.prog 33 #[.pointer q, .slice ka kn kc] w fun e w' => ∃ v, e = .returned v ∧ Below w.heap.size w w' ∧ FromV b (.pointer q) ka kn kc w' v := by
  refine (from_is (.pointer q) ka kn kc w q rfl).mono ?_
  rintro e w' ⟨rfl, rfl⟩
  have b1 := Below.allocs w (.cells #[.pointer q] 51)
  have b2 := Below.allocs (w.alloc (.cells #[.pointer q] 51)) (.cells #[.slice ka kn kc] 27)
  have l1 := Lit.new w [.pointer q] 51 (by intro v hv; simp at hv; subst hv; rfl)
  have l2 := Lit.new (w.alloc (.cells #[.pointer q] 51)) [.slice ka kn kc] 27 (by intro v hv; simp at hv; subst hv; rfl)
  rw [World.size_alloc] at l2
  exact ⟨_, rfl, below_tr b1 b2, w.heap.size, rfl, hb, (l1.below b2).at' 0 _ rfl, l2.at' 0 _ rfl⟩

theorem from_enters : ∀ args w, (callFunc 47 args).run Try.prog w = .ok (.enter 47 args) w := enters_of Try.func47 (by kernel_rfl) rfl
theorem encE_size (x : CE) : (encE x).size = (#[41] : Array Tmp).size := rfl

section
attribute [local go_sem] Oper.semAt_some
attribute [local irreducible] wpStill
set_option maxRecDepth 100000 in
set_option maxHeartbeats 4000000 in
theorem from_node_is (h : Nat) (ih : FromC (h + 1)) : FromC (h + 2) := by
  intro G Ok n lo hi l n0 K A J Jx p Bn Bk ka kc kn key W hhi hp hJ hn0 t hG hft hK hBn hBk hcn hck hkn hsl hlen
  change Nd (Kid (h + 1)) at n
  change W.cell? ⟨Bn, 0, none⟩ = some (.pointer (some ⟨n.g, 0, none⟩)) at hcn
  have mixed : Try.prog.follows Departure.mixedOrders = true := by kernel_rfl
  obtain ⟨M, hM⟩ : ∃ M, n.es.length = M := ⟨_, rfl⟩
  obtain ⟨NK, hN⟩ : ∃ NK, n.ks.length = NK := ⟨_, rfl⟩
  have hM7 : M ≤ 7 := by rw [← hM]; exact Nat.le_trans t.wf.2.1 hhi
  obtain ⟨i0, hh⟩ := hereK_of t.srtE key
  have hi0 : i0 ≤ M := by have := hh.1; unfold entsC at this; rw [List.length_map, hM] at this; exact this
  have hbw := Below.allocs W (.cells #[.func (.yield l) #[] #[]] 57)
  have hbx := Lit.new W [.func (.yield l) #[] #[]] 57 (by intro v hv; simp at hv; subst hv; rfl)
  rw [show ([Value.func (.yield l) #[] #[]] : List Value).toArray = (#[.func (.yield l) #[] #[]] : Array Value) from rfl] at hbx
  obtain ⟨V, hV⟩ : ∃ V, W.alloc (.cells #[.func (.yield l) #[] #[]] 57) = V := ⟨_, rfl⟩
  obtain ⟨Y, hY⟩ : ∃ Y, W.heap.size = Y := ⟨_, rfl⟩
  rw [hV] at hbw hbx
  rw [hY] at hbx
  have hAlt := hp.j.lt hJ
  have blt := hAlt Bn hBn
  have klt := hAlt Bk hBk
  have hrd : ∀ W', Stay A W W' → W'.cell? ⟨Bn, 0, none⟩ = some (.pointer (some ⟨n.g, 0, none⟩)) ∧ W'.cell? ⟨Bk, 0, none⟩ = some (.slice ka kn kc) ∧ W'.cell? ⟨n.g, 0, none⟩ = some (.slice n.ea M n.ec) ∧ W'.cell? ⟨n.g, 1, none⟩ = some (.slice n.ca NK n.cc) ∧ Tree (h + 2) lo hi W' K n ∧ SlG A W' ka kc key := fun W' hs => by
    have t' := t.stay hs hft hK
    have s := t'.inn.self
    have a0 := s.g0
    have a1 := s.g1
    rw [hM] at a0
    rw [List.length_map, hN] at a1
    exact ⟨by rw [hs.cell blt hBn]; exact hcn, by rw [hs.cell klt hBk]; exact hck, a0, a1, t', hsl.stay hs⟩
  have hbs : ∀ W', Stay A W W' → Calls Try.prog 48 #[.slice n.ea M n.ec, .slice ka kn kc, .func (.func 34) #[] #[]] W' fun e w' => ∃ z : Value, e = .returned (.tuple #[.int .i64 (i0 : Int), z]) ∧ Below W'.heap.size W' w' := fun W' hs => by
    obtain ⟨_, _, _, _, t', hs'⟩ := hrd W' hs
    have er := t'.inn.self.er
    rw [hM] at er
    exact bsk_is n.ea ka n.ec M kc kn n.es key i0 hM (by omega) hkn W' er (fun x hx => (t'.keyE x hx).1.sl) hs'.sl hh
  have HP := Lib.hid hp
  have HJ := Lib.hid hJ
  have HRD := Lib.hid hrd
  have HBS := Lib.hid hbs
  have HV := Lib.hid hV
  have HYY := Lib.hid hY
  have HBW := Lib.hid hbw
  have HBX := Lib.hid hbx
  have HM := Lib.hid (And.intro hM hN)
  have HH := Lib.hid hh
  have HT := Lib.hid t
  have HG := Lib.hid hG
  have HF := Lib.hid (And.intro hft (And.intro hK (And.intro hBn (And.intro hBk (And.intro hkn (And.intro hlen (And.intro hn0 hAlt)))))))
  have hcw := hcn
  clear t hG hrd hbs hV hbw hbx hM hN hh hp hJ hft hK hBn hBk hck hkn hsl hlen hn0 hAlt hY klt hcn
  have HNK : Hid (NK = M + 1) := Lib.hid (by have h1 := HT.out.wf.2.2.1 (by omega); have h2 := HM.out; omega)
  refine callsIn_of_wp_marks Try.func47 rfl trivial ?_ rfl
  simp only [Try.ntmps47, List.size_toArray, List.length_cons, List.length_nil, Nat.reduceAdd, Nat.reduceSub, Array.replicate_succ, Array.replicate_zero, List.push_toArray, List.append_toArray, List.nil_append, List.cons_append]
  refine wpIn_wide.2 ?_
  go_wp2_with fail
  simp only [HYY.out]
  rw [HV.out]
  clear hcw blt
  have hdr := below_drw V
  try simp only [List.append_eq, List.cons_append, List.nil_append]
  refine RX.wp_region_plan (fun w w' => Below w.heap.size w w') [.it (.pointer (some ⟨n.g, 0, none⟩)), .it (.pointer (some ⟨n.g, 0, none⟩)), .it (.pointer (some ⟨n.g, 0, none⟩)), .it (.slice n.ea M n.ec), .it (.slice ka kn kc), .of (fun _ v => ∃ z : Value, v = .tuple #[.int .i64 (i0 : Int), z]), .of (fun _ v => ∃ z : Value, v = .tuple #[.int .i64 (i0 : Int), z]), .it (.int .i64 (i0 : Int)), .of (fun _ _ => True), .it (.int .i64 (i0 : Int)), .of (fun _ _ => True)] (by kernel_rfl) (by kernel_rfl) (fun _ => Below.refl _ _) (fun _ _ _ => below_tr) ?_
  refine RX.seqP_value (fun _ => Below.refl _ _) _ (by first | rfl | simp) (fun w' hw' hctx => ?_) ?_
  · obtain ⟨c0, c1, c2, c3, _, _⟩ := HRD.out w' (Stay.of_below (below_tr HBW.out (below_tr hdr hw')))
    go_simp
    try first | with_reducible rfl | simp
  simp only [Act.put, List.setIfInBounds_toArray, List.set_cons_zero, List.set_cons_succ]
  refine RX.seqP_value (fun _ => Below.refl _ _) _ (by first | rfl | simp) (fun w' hw' hctx => ?_) ?_
  · go_simp
    try first | with_reducible rfl | simp
  simp only [Act.put, List.setIfInBounds_toArray, List.set_cons_zero, List.set_cons_succ]
  refine RX.seqP_value (fun _ => Below.refl _ _) _ (by first | rfl | simp) (fun w' hw' hctx => ?_) ?_
  · go_simp
    try first | with_reducible rfl | simp
  simp only [Act.put, List.setIfInBounds_toArray, List.set_cons_zero, List.set_cons_succ]
  refine RX.seqP_value (fun _ => Below.refl _ _) _ (by first | rfl | simp) (fun w' hw' hctx => ?_) ?_
  · obtain ⟨c0, c1, c2, c3, _, _⟩ := HRD.out w' (Stay.of_below (below_tr HBW.out (below_tr hdr hw')))
    go_simp
    try first | with_reducible rfl | simp
  simp only [Act.put, List.setIfInBounds_toArray, List.set_cons_zero, List.set_cons_succ]
  refine RX.seqP_value (fun _ => Below.refl _ _) _ (by first | rfl | simp) (fun w' hw' hctx => ?_) ?_
  · obtain ⟨c0, c1, c2, c3, _, _⟩ := HRD.out w' (Stay.of_below (below_tr HBW.out (below_tr hdr hw')))
    go_simp
    try first | with_reducible rfl | simp
  simp only [Act.put, List.setIfInBounds_toArray, List.set_cons_zero, List.set_cons_succ]
  refine RX.seqP_callOf (48) #[.slice n.ea M n.ec, .slice ka kn kc, .func (.func 34) #[] #[]] (fun _ v => ∃ z : Value, v = .tuple #[.int .i64 (i0 : Int), z]) (fun _ _ _ _ h => h) (by first | rfl | simp) (fun w' hw' hctx => ?_) (fun w' hw' hctx => (HBS.out w' (Stay.of_below (below_tr HBW.out (below_tr hdr hw')))).mono fun e w2 ⟨z, he, hb⟩ => ⟨_, he, hb, z, rfl⟩) (fun u5 => ?_)
  · go_simp
  simp only [Act.put, List.setIfInBounds_toArray, List.set_cons_zero, List.set_cons_succ]
  refine RX.seqP_make (fun _ v => ∃ z : Value, v = .tuple #[.int .i64 (i0 : Int), z]) (fun _ _ _ _ h => h) (by first | rfl | simp) (fun w' hw' hctx => ?_) (fun u6 => ?_)
  · exact ⟨u5, w', by go_simp, Below.refl _ _, hctx.1⟩
  simp only [Act.put, List.setIfInBounds_toArray, List.set_cons_zero, List.set_cons_succ]
  refine RX.seqP_value (fun _ => Below.refl _ _) _ (by first | rfl | simp) (fun w' hw' hctx => ?_) ?_
  · obtain ⟨z, rfl⟩ := hctx.1
    go_simp
    try first | with_reducible rfl | simp
  simp only [Act.put, List.setIfInBounds_toArray, List.set_cons_zero, List.set_cons_succ]
  refine RX.seqP_make (fun _ _ => True) (fun _ _ _ _ h => h) (by first | rfl | simp) (fun w' hw' hctx => ?_) (fun u8 => ?_)
  · obtain ⟨z, rfl⟩ := hctx.1
    exact ⟨z, w', by go_simp, Below.refl _ _, trivial⟩
  simp only [Act.put, List.setIfInBounds_toArray, List.set_cons_zero, List.set_cons_succ]
  refine RX.seqP_value (fun _ => Below.refl _ _) _ (by first | rfl | simp) (fun w' hw' hctx => ?_) ?_
  · go_simp
    try first | with_reducible rfl | simp
  simp only [Act.put, List.setIfInBounds_toArray, List.set_cons_zero, List.set_cons_succ]
  refine RX.seqP_make (fun _ _ => True) (fun _ _ _ _ h => h) (by first | rfl | simp) (fun w' hw' hctx => ?_) (fun u10 => ?_)
  · exact ⟨u8, w', by go_simp, Below.refl _ _, trivial⟩
  simp only [Act.put, List.setIfInBounds_toArray, List.set_cons_zero, List.set_cons_succ]
  refine RX.seqP_nil (fun v1 hR hctx _ => ?_)
  have hv1 := below_tr hdr hR
  clear hctx hR
  have HVS := Lib.hid hv1.size
  have HYV : Hid (v1.cell? ⟨Y, 0, none⟩ = some (.func (.yield l) #[] #[])) := Lib.hid (by rw [hv1.cell (p := ⟨Y, 0, none⟩) HBX.out.lt]; exact HBX.out.at' 0 _ rfl)
  -- what stands from here on
  have BV := Lib.hid (below_tr HBW.out hv1)
  clear hv1 hdr
  obtain ⟨A1, hA1⟩ : ∃ A1 : Nat → Prop, A1 = fun k => A k ∨ (W.heap.size ≤ k ∧ k < v1.heap.size) := ⟨_, rfl⟩
  have hsub : ∀ k, A k → A1 k := fun k hk => by rw [hA1]; exact .inl hk
  have hAY : A1 Y := by
    rw [hA1, ← HYY.out]
    exact .inr ⟨Nat.le_refl _, Nat.lt_of_lt_of_le (by rw [HYY.out]; exact HBX.out.lt) (show V.heap.size ≤ v1.heap.size from Nat.le_of_not_lt (fun hx => by have := HVS.out; omega))⟩
  have hJ1 : J A1 p v1 := by rw [hA1]; exact HP.out.j.below HJ.out BV.out
  have hst1 : ∀ w, Stay A1 v1 w → Stay A W w := fun w hs => (Stay.of_below BV.out).trans (hs.mono hsub)
  have hlt1 : ∀ k, A1 k → k < v1.heap.size := HP.out.j.lt hJ1
  have hY1 : v1.cell? ⟨Y, 0, none⟩ = some (.func (.yield l) #[] #[]) := HYV.out
  have hrd : ∀ w, Stay A1 v1 w → w.cell? ⟨Bn, 0, none⟩ = some (.pointer (some ⟨n.g, 0, none⟩)) ∧ w.cell? ⟨Bk, 0, none⟩ = some (.slice ka kn kc) ∧ w.cell? ⟨Y, 0, none⟩ = some (.func (.yield l) #[] #[]) ∧ w.cell? ⟨n.g, 0, none⟩ = some (.slice n.ea M n.ec) ∧ w.cell? ⟨n.g, 1, none⟩ = some (.slice n.ca NK n.cc) := fun w hs => by
    obtain ⟨c0, c1, c2, c3, _, _⟩ := HRD.out w (hst1 w hs)
    exact ⟨c0, c1, by rw [hs.cell (hlt1 Y hAY) hAY]; exact hY1, c2, c3⟩
  have hup : upto (h + 1) n key i0 = [] := upto_start HT.out HH.out
  have HJ1 : Hid (J A1 (p ++ upto (h + 1) n key i0) v1) := Lib.hid (by rw [hup, List.append_nil]; exact hJ1)
  have HR := Lib.hid hrd
  have HST := Lib.hid hst1
  have HSUB := Lib.hid hsub
  have HLT := Lib.hid hlt1
  have HA1 := Lib.hid hA1
  clear hA1 hsub hAY hJ1 hst1 hlt1 hY1 hrd hup
  go_wp2_with fail
  refine (wpIn_wide (n := 1)).1 ?_
  refine wpIn_loop_ghost_k (fun gg a w => ∃ (v6 v20 v21 v22 v23 v24 v25 v26 v27 v28 v29 v30 v31 v32 v33 v34 v35 v36 v37 v38 v39 v40 v46 v47 v48 v49 v50 v51 v52 v53 v54 v55 v56 v57 v58 v59 v60 v61 v62 v63 v64 : Value) (ds : List Deferred), (∃ (i : Nat) (A' : Nat → Prop) (Ds : List Nat), v6 = .int .i64 (i : Int) ∧ i0 ≤ i ∧ i ≤ M + 1 ∧ M + 1 - i ≤ gg ∧ Hid (J A' (p ++ upto (h + 1) n key i) w) ∧ Hid (∀ k, A1 k → A' k) ∧ Hid (Stay A1 v1 w) ∧ Hid (Marks A' n0 w ds Ds) ∧ Hid (∀ D ∈ Ds, v1.heap.size ≤ D)) ∧ a = { tmps := #[.func (.yield l) #[] #[], .pointer (some ⟨Bn, 0, none⟩), .pointer (some ⟨Bk, 0, none⟩), .pointer (some ⟨Y, 0, none⟩), .int .i64 (i0 : Int), u10, v6, undef, .pointer (some ⟨n.g, 0, none⟩), .bool false, u6, .pointer (some ⟨n.g, 0, none⟩), .pointer (some ⟨n.g, 0, none⟩), .pointer (some ⟨n.g, 0, none⟩), .slice n.ea M n.ec, .slice ka kn kc, u5, .int .i64 (i0 : Int), u8, .int .i64 (i0 : Int), v20, v21, v22, v23, v24, v25, v26, v27, v28, v29, v30, v31, v32, v33, v34, v35, v36, v37, v38, v39, v40, undef, undef, undef, undef, undef, v46, v47, v48, v49, v50, v51, v52, v53, v54, v55, v56, v57, v58, v59, v60, v61, v62, v63, v64], defers := ds }) (M + 1) ?_ ?_
  · refine ⟨_, _, _, _, _, _, _, _, _, _, _, _, _, _, _, _, _, _, _, _, _, _, _, _, _, _, _, _, _, _, _, _, _, _, _, _, _, _, _, _, _, _, ⟨i0, A1, [], rfl, Nat.le_refl _, by omega, by omega, HJ1, Lib.hid (fun _ hk => hk), Lib.hid (Stay.refl _ _), Lib.hid (Marks.nil _ _ _), Lib.hid (fun _ hx => absurd hx List.not_mem_nil)⟩, rfl⟩
  intro gg _ w hinv
  obtain ⟨v6, v20, v21, v22, v23, v24, v25, v26, v27, v28, v29, v30, v31, v32, v33, v34, v35, v36, v37, v38, v39, v40, v46, v47, v48, v49, v50, v51, v52, v53, v54, v55, v56, v57, v58, v59, v60, v61, v62, v63, v64, ds, ⟨i, A', Ds, rfl, hi1, hiM, hgg, HJi, HA, HS, HMK, HD⟩, rfl⟩ := hinv
  intro _ _ _ _
  dsimp only
  by_cases hlt : i ≤ M
  · have hltz : (i : Int) ≤ (M : Int) := by omega
    obtain ⟨c0, c1, c2, c3, c4⟩ := HR.out w HS.out
    have blt := World.block_lt_of_cell? _ _ c0
    have glt := World.block_lt_of_cell? _ _ c3
    have hNK := HNK.out
    have hlf := leaf_is n.g NK n.cc n.ca false (by simp; omega) w c4
    have HLF := Lib.hid hlf
    clear hlf hNK
    refine wpIn_wide.2 ?_
    go_wp2_with fail
    refine HLF.out.mono ?_
    rintro e w5 ⟨rfl, hb2⟩
    obtain ⟨A5, hA5⟩ : ∃ A5 : Nat → Prop, A5 = fun k => A' k ∨ (w.heap.size ≤ k ∧ k < w5.heap.size) := ⟨_, rfl⟩
    have HJ5 : Hid (J A5 (p ++ upto (h + 1) n key i) w5) := Lib.hid (by rw [hA5]; exact HP.out.j.below HJi.out hb2)
    have HA5 : Hid (∀ k, A1 k → A5 k) := Lib.hid (fun k hk => by rw [hA5]; exact .inl (HA.out k hk))
    have HS5 : Hid (Stay A1 v1 w5) := Lib.hid (HS.out.trans (Stay.of_below hb2))
    have HMK5 : Hid (Marks A5 n0 w5 ds Ds) := Lib.hid (HMK.out.stay (fun k hk => by rw [hA5]; exact .inl hk) (Stay.of_below hb2))
    -- the child
    obtain ⟨d, hd⟩ : ∃ d, n.ks[i]? = some d := ⟨n.ks[i]'(by rw [HM.out.2, HNK.out]; omega), by simp⟩
    have tk := fun W' (hs : Stay A1 v1 W') => (HRD.out W' (HST.out W' hs)).2.2.2.2.1
    obtain ⟨cb, co, hca, _, _, _⟩ := kid_at (tk w5 HS5.out).inn.self.cr (i := i) (g := kg (h + 1) d) (by simp [hd])
    have hrk : ∀ W', Stay A1 v1 W' → W'.cell? ⟨Bn, 0, none⟩ = some (.pointer (some ⟨n.g, 0, none⟩)) ∧ W'.cell? ⟨Bk, 0, none⟩ = some (.slice ka kn kc) ∧ W'.cell? ⟨Y, 0, none⟩ = some (.func (.yield l) #[] #[]) ∧ W'.cell? ⟨n.g, 0, none⟩ = some (.slice n.ea M n.ec) ∧ W'.cell? ⟨n.g, 1, none⟩ = some (.slice (some ⟨cb, co, none⟩) NK n.cc) ∧ W'.cell? ⟨cb, co + i, none⟩ = some (.pointer (some ⟨kg (h + 1) d, 0, none⟩)) := fun W' hs => by
      obtain ⟨c0, c1, c2, c3, c4⟩ := HR.out W' hs
      obtain ⟨cb', co', hca', k0, _, _⟩ := kid_at (tk W' hs).inn.self.cr (i := i) (g := kg (h + 1) d) (by simp [hd])
      rw [hca] at hca' c4
      cases hca'
      exact ⟨c0, c1, c2, c3, c4, k0⟩
    have hiN : i < NK := by have := HNK.out; omega
    have hiz : (i : Int) < (NK : Int) := by omega
    have ziN : ¬ NK ≤ i := by omega
    have hTK : ∀ W', Stay A1 v1 W' → Tree (h + 1) 3 7 W' K d := fun W' hs => (tk W' hs).kid hd
    have hFK : ∀ k p, foot (h + 1) d k p → A k := fun k p hf => HF.out.1 k p (.inr ⟨d, List.mem_of_getElem? hd, hf⟩)
    have hcs : (csN (h + 1) n)[i]? = some (flatN (h + 1) d) := cs_kid hd
    have HRK := Lib.hid hrk
    have HTK := Lib.hid hTK
    have HFK := Lib.hid hFK
    have HCS := Lib.hid hcs
    clear hrk hTK hFK hcs tk hca hd hA5 hb2 c0 c1 c2 c3 c4 blt glt HLF
    go_wp2_with fail
    have hdr7 := below_drw w5
    try simp only [List.append_eq, List.cons_append, List.nil_append]
    refine RX.wp_region_plan (fun w w' => Below w.heap.size w w') [.it (.pointer (some ⟨n.g, 0, none⟩)), .it (.pointer (some ⟨n.g, 0, none⟩)), .it (.pointer (some ⟨n.g, 1, none⟩)), .it (.slice (some ⟨cb, co, none⟩) NK n.cc), .it (.int .i64 (i : Int)), .it (.pointer (some ⟨cb, co + i, none⟩)), .it (.pointer (some ⟨kg (h + 1) d, 0, none⟩)), .it (.slice ka kn kc), .of (fun W v => FromV w5.heap.size (.pointer (some ⟨kg (h + 1) d, 0, none⟩)) ka kn kc W v)] (by kernel_rfl) (by kernel_rfl) (fun _ => Below.refl _ _) (fun _ _ _ => below_tr) ?_
    refine RX.seqP_value (fun _ => Below.refl _ _) _ (by first | rfl | simp) (fun w' hw' hctx => ?_) ?_
    · obtain ⟨c0, c1, c2, c3, c4, c5⟩ := HRK.out w' (HS5.out.trans (Stay.of_below (below_tr hdr7 hw')))
      go_simp
      try first | with_reducible rfl | simp
    simp only [Act.put, List.setIfInBounds_toArray, List.set_cons_zero, List.set_cons_succ]
    refine RX.seqP_value (fun _ => Below.refl _ _) _ (by first | rfl | simp) (fun w' hw' hctx => ?_) ?_
    · go_simp
      try first | with_reducible rfl | simp
    simp only [Act.put, List.setIfInBounds_toArray, List.set_cons_zero, List.set_cons_succ]
    refine RX.seqP_value (fun _ => Below.refl _ _) _ (by first | rfl | simp) (fun w' hw' hctx => ?_) ?_
    · go_simp
      try first | with_reducible rfl | simp
    simp only [Act.put, List.setIfInBounds_toArray, List.set_cons_zero, List.set_cons_succ]
    refine RX.seqP_value (fun _ => Below.refl _ _) _ (by first | rfl | simp) (fun w' hw' hctx => ?_) ?_
    · obtain ⟨c0, c1, c2, c3, c4, c5⟩ := HRK.out w' (HS5.out.trans (Stay.of_below (below_tr hdr7 hw')))
      go_simp
      try first | with_reducible rfl | simp
    simp only [Act.put, List.setIfInBounds_toArray, List.set_cons_zero, List.set_cons_succ]
    refine RX.seqP_value (fun _ => Below.refl _ _) _ (by first | rfl | simp) (fun w' hw' hctx => ?_) ?_
    · go_simp
      try first | with_reducible rfl | simp
    simp only [Act.put, List.setIfInBounds_toArray, List.set_cons_zero, List.set_cons_succ]
    refine RX.seqP_value (fun _ => Below.refl _ _) _ (by first | rfl | simp) (fun w' hw' hctx => ?_) ?_
    · go_simp
      try first | with_reducible rfl | simp
    simp only [Act.put, List.setIfInBounds_toArray, List.set_cons_zero, List.set_cons_succ]
    refine RX.seqP_value (fun _ => Below.refl _ _) _ (by first | rfl | simp) (fun w' hw' hctx => ?_) ?_
    · obtain ⟨c0, c1, c2, c3, c4, c5⟩ := HRK.out w' (HS5.out.trans (Stay.of_below (below_tr hdr7 hw')))
      go_simp
      try first | with_reducible rfl | simp
    simp only [Act.put, List.setIfInBounds_toArray, List.set_cons_zero, List.set_cons_succ]
    refine RX.seqP_value (fun _ => Below.refl _ _) _ (by first | rfl | simp) (fun w' hw' hctx => ?_) ?_
    · obtain ⟨c0, c1, c2, c3, c4, c5⟩ := HRK.out w' (HS5.out.trans (Stay.of_below (below_tr hdr7 hw')))
      go_simp
      try first | with_reducible rfl | simp
    simp only [Act.put, List.setIfInBounds_toArray, List.set_cons_zero, List.set_cons_succ]
    refine RX.seqP_callOf (33) #[.pointer (some ⟨kg (h + 1) d, 0, none⟩), .slice ka kn kc] (fun W v => FromV w5.heap.size (.pointer (some ⟨kg (h + 1) d, 0, none⟩)) ka kn kc W v) (fun w w' v hb h => h.below hb) (by first | rfl | simp) (fun w' hw' hctx => ?_) (fun w' hw' hctx => from_of w5.heap.size _ ka kn kc w' ((below_tr hdr7 hw')).size) (fun u40 => ?_)
    · go_simp
    simp only [Act.put, List.setIfInBounds_toArray, List.set_cons_zero, List.set_cons_succ]
    refine RX.seqP_nil (fun w6 hR hctx _ => ?_)
    have hv6 := below_tr hdr7 hR
    obtain ⟨B, rfl, hBs, hB0, hB1⟩ := hctx.1
    clear hctx hR
    -- what stands ahead of the range
    obtain ⟨A6, hA6⟩ : ∃ A6 : Nat → Prop, A6 = fun k => A5 k ∨ (w5.heap.size ≤ k ∧ k < w6.heap.size) := ⟨_, rfl⟩
    have HJ6 : Hid (J A6 (p ++ upto (h + 1) n key i) w6) := Lib.hid (by rw [hA6]; exact HP.out.j.below HJ5.out hv6)
    have HA6 : Hid (∀ k, A1 k → A6 k) := Lib.hid (fun k hk => by rw [hA6]; exact .inl (HA5.out k hk))
    have HS6 : Hid (Stay A1 v1 w6) := Lib.hid (HS5.out.trans (Stay.of_below hv6))
    have HMK6 : Hid (Marks A6 n0 w6 ds Ds) := Lib.hid (HMK5.out.stay (fun k hk => by rw [hA6]; exact .inl hk) (Stay.of_below hv6))
    have hBl := World.block_lt_of_cell? _ _ hB0
    have hBl1 := World.block_lt_of_cell? _ _ hB1
    have HB : Hid (A6 B ∧ A6 (B + 1) ∧ w6.cell? ⟨B, 0, none⟩ = some (.pointer (some ⟨kg (h + 1) d, 0, none⟩)) ∧ w6.cell? ⟨B + 1, 0, none⟩ = some (.slice ka kn kc)) := Lib.hid ⟨by rw [hA6]; exact .inr ⟨hBs, hBl⟩, by rw [hA6]; exact .inr ⟨by omega, hBl1⟩, hB0, hB1⟩
    have HN6 : Hid (n0 ≤ w6.heap.size) := Lib.hid (by
      have h1 := HF.out.2.2.2.2.2.2.1
      have h2 := BV.out.size
      have h3 := HS6.out.size
      omega)
    have HLN : Hid (∀ q, q <+: allF (h + 2) n key → Ok (p ++ q)) := Lib.hid HF.out.2.2.2.2.2.1
    have HPK : Hid (∀ q, q <+: allF (h + 1) d key → upto (h + 1) n key i ++ q <+: allF (h + 2) n key) := Lib.hid (fun q hq => upto_kid HT.out (by rw [HM.out.1]; exact hlt) HCS.out hq)
    clear hA6 hv6 hBs hB0 hB1 hBl hBl1 hdr7
    go_wp2_with fail
    refine (wpIn_wide (n := 1)).1 ?_
    refine wpIn_range (tellsE G) Ok J Jx (HP.out.j.mono HN6.out) (HP.out.x.mono HN6.out) A6 (p ++ upto (h + 1) n key i) (allF (h + 1) d key) HJ6.out rfl from_enters encE_size (fun x W => W.alloc (.cells #[.slice x.a x.e.key.length x.c, .int .i64 x.e.id] 37)) (fun x W => Below.allocs _ _) .ret .ret (.inl ⟨rfl, rfl⟩) ?round ?call ?done ?stop
    case round =>
      intro l2 x Wl hl2 hl2'
      simp only [encE]
      gi_wp2
      refine ⟨rfl, fun A3 p2 W2 hJ2 _ hT2 hpl hA3 hst2 _ hk _ => ?_⟩
      have hnl := Lit.new Wl [.slice x.a x.e.key.length x.c, .int .i64 x.e.id] 37 (by intro v hv; simp at hv; rcases hv with rfl | rfl <;> rfl)
      have hne : Wl.heap.size ≠ l2 := by omega
      have e0 : W2.cell? ⟨Wl.heap.size, 0, none⟩ = some (.slice x.a x.e.key.length x.c) := by rw [World.cell?_of_block (hk _ hne)]; exact hnl.at' 0 _ rfl
      have e1 : W2.cell? ⟨Wl.heap.size, 1, none⟩ = some (.int .i64 x.e.id) := by rw [World.cell?_of_block (hk _ hne)]; exact hnl.at' 1 _ rfl
      obtain ⟨_, _, c2, _, _⟩ := HR.out W2 (HS6.out.trans (hst2.mono HA6.out))
      obtain ⟨fn, tmps, assign, body, hy, hRR⟩ := HP.out.turn A3 p2 x W2 hJ2 hT2 hpl
      have HRR := Lib.hid hRR
      simp only [encE] at hy
      clear hnl hk hJ2 hT2 hpl hA3 hst2 hRR
      gi_wp2_with fail
      refine ⟨rfl, RoundIn.mono (round_at (r := none) (r' := some l2) HRR.out) ?_⟩
      rintro e w3 (⟨rfl, hJ3, hst3⟩ | ⟨rfl, hJ3, hst3⟩)
      · have HE := Lib.hid (And.intro hJ3 hst3)
        clear hJ3 hst3 hy
        gi_wp2_with fail
        exact HE.out
      · have HE := Lib.hid (And.intro hJ3 hst3)
        clear hJ3 hst3 hy
        gi_wp2_with fail
        exact HE.out
    case call =>
      intro l2 nn J2 Jx2 A3 W3 hpar hJ3 hnn hA3 hst3
      have hs1 : Stay A1 v1 W3 := HS6.out.trans (hst3.mono HA6.out)
      have hb := HB.out
      have hlt6 := HP.out.j.lt HJ6.out
      have hSK : SlG A W3 ka kc key := (HRD.out W3 (HST.out W3 hs1)).2.2.2.2.2
      have hA : ∀ k, A k → A3 k := fun k hk => hA3 k (HA6.out k (HSUB.out k hk))
      refine ih G Ok d 3 7 l2 nn K A3 J2 Jx2 (p ++ upto (h + 1) n key i) B (B + 1) ka kc kn key W3 (by omega) hpar hJ3 hnn (HTK.out W3 hs1) (fun x hx => HG.out x ((HPK.out _ (List.prefix_refl _)).subset (List.mem_append_right _ hx))) (fun k p hf => hA k (HFK.out k p hf)) (fun k hk => hA k (HF.out.2.1 k hk)) (hA3 _ hb.1) (hA3 _ hb.2.1) ?_ ?_ HF.out.2.2.2.2.1 (hSK.mono fun k _ hk => hA k hk) ?_
      · rw [hst3.cell (hlt6 _ hb.1) hb.1]; exact hb.2.2.1
      · rw [hst3.cell (hlt6 _ hb.2.1) hb.2.1]; exact hb.2.2.2
      · intro q hq
        rw [List.append_assoc]
        exact HLN.out _ (HPK.out q hq)
    case stop =>
      intro D A3 W3 q hq hJ3 hA3 hst3 hD hDn hDb
      have hnew : D ∉ Ds := fun hx => by
        have := Array.getElem?_eq_some_iff.1 (HMK6.out.mem D hx).2.2
        obtain ⟨h1, _⟩ := this
        omega
      have HJ3 : Hid (Jx A3 (p ++ (upto (h + 1) n key i ++ q)) W3) := Lib.hid (by rw [← List.append_assoc]; exact hJ3)
      have HPR := Lib.hid (HPK.out q hq)
      have HMKE := Lib.hid ((HMK6.out.stay hA3 hst3).cons hD (Nat.le_trans HN6.out hDn) hDb hnew)
      have HAE : Hid (∀ k, A k → A3 k) := Lib.hid (fun k hk => hA3 k (HA6.out k (HSUB.out k hk)))
      clear hnew hJ3 hA3 hst3 hD hDn hDb
      gi_wp2_with fail
      refine HMKE.out.leaves fun W' ht hs => ⟨.tuple #[], by simp [results, Try.results47, go_sem], ⟨_, rfl⟩, A3, HAE.out, .inr ⟨_, HPR.out, HP.out.x.keep HJ3.out ht hs⟩⟩
    case done =>
      intro D A2 w2 hJ3 hA3 hst3 hD hDn hDb
      obtain ⟨Q, hQ⟩ : ∃ Q, upto (h + 1) n key i ++ allF (h + 1) d key = Q := ⟨_, rfl⟩
      have HJ2 : Hid (J A2 (p ++ Q) w2) := Lib.hid (by rw [← hQ, ← List.append_assoc]; exact hJ3)
      have HA2 : Hid (∀ k, A1 k → A2 k) := Lib.hid (fun k hk => hA3 k (HA6.out k hk))
      have HS2 : Hid (Stay A1 v1 w2) := Lib.hid (HS6.out.trans (hst3.mono HA6.out))
      have hnew : D ∉ Ds := fun hx => by
        have := Array.getElem?_eq_some_iff.1 (HMK6.out.mem D hx).2.2
        obtain ⟨h1, _⟩ := this
        omega
      obtain ⟨Ds2, hDs2⟩ : ∃ Ds2, D :: Ds = Ds2 := ⟨_, rfl⟩
      have HMK2 : Hid (Marks A2 n0 w2 ({ target := .collected D, args := #[] } :: ds) Ds2) := Lib.hid (by rw [← hDs2]; exact (HMK6.out.stay hA3 hst3).cons hD (Nat.le_trans HN6.out hDn) hDb hnew)
      have HD2 : Hid (∀ D ∈ Ds2, v1.heap.size ≤ D) := Lib.hid (fun E hE => by
        rw [← hDs2] at hE
        rcases List.mem_cons.1 hE with rfl | hE
        · exact Nat.le_trans HS6.out.size hDn
        · exact HD.out E hE)
      have HQ1 : Hid (∀ x, n.es[i]? = some x → gek key x = true → upto (h + 1) n key (i + 1) = Q ++ [x]) := Lib.hid (fun x hx hg => by
        rw [upto_entry HCS.out hx hg, ← hQ, List.append_assoc]
        rfl)
      have HQ2 : Hid (i = M → upto (h + 1) n key (i + 1) = Q) := Lib.hid (fun e => by
        have h1 := HM.out.1
        have h2 := HCS.out
        rw [e, ← h1] at h2
        rw [← hQ, e, ← h1]
        exact upto_last HT.out h2)
      clear hQ hDs2 hnew hJ3 hA3 hst3 hD hDn hDb
      go_wp2_with fail
      by_cases hlt2 : i < M
      · have hltz2 : (i : Int) < (M : Int) := by omega
        have hd : decide ((i : Int) < (M : Int)) = true := decide_eq_true hltz2
        have z1 : ¬ M ≤ i := by omega
        obtain ⟨x, hx⟩ : ∃ x, n.es[i]? = some x := ⟨n.es[i]'(by rw [HM.out.1]; exact hlt2), by simp⟩
        have t' := (HRD.out w2 (HST.out w2 HS2.out)).2.2.2.2.1
        have er := t'.inn.self.er
        rw [HM.out.1] at er
        obtain ⟨eb, eo, hea, d0, d1, _, _, dlt⟩ := ent_at er hx
        obtain ⟨c0, c1, c2, c3, c4⟩ := HR.out w2 HS2.out
        have blt := World.block_lt_of_cell? _ _ c0
        have ylt := World.block_lt_of_cell? _ _ c2
        have glt := World.block_lt_of_cell? _ _ c3
        rw [hea] at c3
        clear hea
        have hge : gek key x = true := by
          have := HH.out.2.2 i x.e hi1 (ents_get hx)
          simp [gek, this]
        have hu := HQ1.out x hx hge
        have hkx := t'.keyE x (List.mem_of_getElem? hx)
        have hJd : J A2 (p ++ Q) w2.drew := HP.out.j.keep HJ2.out (Touch.of_below (below_drw w2)) rfl
        have hGx : G x := HG.out x (by
          have h1 := (upto_here HT.out (key := key) (i := i + 1) (by rw [HM.out.1]; omega)).subset
          rw [hu] at h1
          exact h1 (by simp))
        have hTx : KG G A2 w2.drew x := ⟨(hkx.stay (Stay.of_below (below_drw w2))).mono (fun k hk => HA2.out k (HSUB.out k (HF.out.2.1 k hk))), hGx⟩
        have hpl : Ok ((p ++ Q) ++ [x]) := by
          have h1 := HF.out.2.2.2.2.2.1 _ (upto_here HT.out (key := key) (i := i + 1) (by rw [HM.out.1]; omega))
          rw [hu] at h1
          rw [List.append_assoc]
          exact h1
        obtain ⟨fn, tmps, assign, body, hy, hR⟩ := HP.out.turn A2 (p ++ Q) x w2.drew hJd hTx hpl
        have HU := Lib.hid hu
        have HX := Lib.hid hx
        have HR2 := Lib.hid hR
        simp only [encE] at hy
        clear hge hkx hGx hJd hTx hpl hu hx er t' hR
        refine (wpIn_wide (n := 1)).1 ?_
        refine RX.wpIn_region_still_tail (r := none) 16 mixed (by kernel_rfl) (by kernel_rfl) ?_
        simp only [List.take_succ_cons, List.take_zero, List.drop_succ_cons, List.drop_zero]
        iterate 16 (with_reducible apply wpStill_step; intro K hK; go_simp; with_reducible apply hK; clear hK K)
        with_reducible apply wpStill_nil
        change wpListIn Fence.wide _ _ _ _ _ _ w2.drew
        clear c0 c1 c2 c3 c4 blt ylt glt d0 d1 dlt hd
        gi_wp2_with fail
        refine HR2.out.mono ?_
        rintro e w3 (⟨rfl, hJ3, hst3⟩ | ⟨rfl, hJ3, hst3⟩)
        · have HJ3 : Hid (J A2 (p ++ upto (h + 1) n key (i + 1)) w3) := Lib.hid (by rw [HU.out, ← List.append_assoc]; exact hJ3)
          have hsw : Stay A2 w2 w3 := (Stay.of_below (below_drw w2)).trans hst3
          have HS3 : Hid (Stay A1 v1 w3) := Lib.hid (HS2.out.trans (hsw.mono HA2.out))
          have HMK3 := Lib.hid (HMK2.out.stay (fun _ h => h) hsw)
          clear hJ3 hst3 hsw hy
          gi_wp2_with fail
          go_wp2_with fail
          gi_roundg (M + 1 - (i + 1))
          case measure => omega
          case rel => exact ⟨i + 1, A2, Ds2, by go_num, by omega, by omega, Nat.le_refl _, HJ3, HA2, HS3, HMK3, HD2⟩
        · have HJ3 : Hid (Jx A2 (p ++ upto (h + 1) n key (i + 1)) w3) := Lib.hid (by rw [HU.out, ← List.append_assoc]; exact hJ3)
          have hsw : Stay A2 w2 w3 := (Stay.of_below (below_drw w2)).trans hst3
          have HMKE := Lib.hid (HMK2.out.stay (fun _ h => h) hsw)
          have HAE : Hid (∀ k, A k → A2 k) := Lib.hid (fun k hk => HA2.out k (HSUB.out k hk))
          have HPR := Lib.hid (upto_here HT.out (key := key) (i := i + 1) (by rw [HM.out.1]; omega))
          clear hJ3 hst3 hsw hy
          gi_wp2_with fail
          go_wp2_with fail
          refine HMKE.out.leaves fun W' ht hs => ⟨.tuple #[], by simp [results, Try.results47, go_sem], ⟨_, rfl⟩, A2, HAE.out, .inr ⟨_, HPR.out, HP.out.x.keep HJ3.out ht hs⟩⟩
      · have heM : i = M := by omega
        have hltz2 : ¬ (i : Int) < (M : Int) := by omega
        have hd : decide ((i : Int) < (M : Int)) = false := decide_eq_false hltz2
        obtain ⟨c0, c1, c2, c3, c4⟩ := HR.out w2 HS2.out
        have blt := World.block_lt_of_cell? _ _ c0
        have glt := World.block_lt_of_cell? _ _ c3
        have HJ3 : Hid (J A2 (p ++ upto (h + 1) n key (i + 1)) w2.drew) := Lib.hid (by rw [HQ2.out heM]; exact HP.out.j.keep HJ2.out (Touch.of_below (below_drw w2)) rfl)
        have HS3 : Hid (Stay A1 v1 w2.drew) := Lib.hid (HS2.out.trans (Stay.of_below (below_drw w2)))
        have HMK3 := Lib.hid (HMK2.out.stay (fun _ h => h) (Stay.of_below (below_drw w2)))
        clear heM
        refine (wpIn_wide (n := 1)).1 ?_
        refine RX.wpIn_region_still_tail (r := none) 16 mixed (by kernel_rfl) (by kernel_rfl) ?_
        simp only [List.take_succ_cons, List.take_zero, List.drop_succ_cons, List.drop_zero]
        iterate 16 (with_reducible apply wpStill_step; intro K hK; go_simp; with_reducible apply hK; clear hK K)
        with_reducible apply wpStill_nil
        change wpListIn Fence.wide _ _ _ _ _ _ w2.drew
        clear c0 c1 c2 c3 c4 blt glt hd
        gi_wp2_with fail
        refine ⟨fun _ h => (by cases h), ?_⟩
        gi_wp2_with fail
        go_wp2_with fail
        gi_roundg (M + 1 - (i + 1))
        case measure => omega
        case rel => exact ⟨i + 1, A2, Ds2, by go_num, by omega, by omega, Nat.le_refl _, HJ3, HA2, HS3, HMK3, HD2⟩
  · obtain rfl : i = M + 1 := by omega
    have hltz : ¬ ((M : Int) + 1) ≤ (M : Int) := by omega
    obtain ⟨c0, c1, c2, c3, c4⟩ := HR.out w HS.out
    have blt := World.block_lt_of_cell? _ _ c0
    have glt := World.block_lt_of_cell? _ _ c3
    have HJE : Hid (J A' (p ++ allF (h + 2) n key) w) := Lib.hid (by have := HJi.out; rw [← HM.out.1, upto_end] at this; exact this)
    have HMKE := HMK
    have HAE : Hid (∀ k, A k → A' k) := Lib.hid (fun k hk => HA.out k (HSUB.out k hk))
    gi_wp2_with fail
    refine HMKE.out.leaves fun W' ht hs => ⟨.tuple #[], by simp [results, Try.results47, go_sem], ⟨_, rfl⟩, A', HAE.out, .inl (HP.out.j.keep HJE.out ht hs)⟩
end
end Go.Proofs.Ytfikaccgpjiedaa

