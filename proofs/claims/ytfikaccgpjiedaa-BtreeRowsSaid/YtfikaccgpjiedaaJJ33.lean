/-
  ordered: walked; Well.
-/
import Derived.Test.YtfikaccgpjiedaaJJ32
import Derived.Test.YtfikaccgpjiedaaJJ21
namespace Go.Proofs.Ytfikaccgpjiedaa
open Go.RowKit Go.Lib

/-- What stands while ordered goes on: the entry before lies in a block of its own. -/
structure OrdI (w : World) (k0 : Nat) (A : Nat → Prop) (p : List CE) (W : World) : Prop where
  bel : Below w.heap.size w W
  lt : ∀ k, A k → k < W.heap.size
  nE : ¬ A (k0 + 1)
  nR : ¬ A k0
  hE : w.heap.size ≤ k0
  res : Lit W k0 [.bool false]
  box : (p = [] ∧ Lit W (k0 + 1) [.pointer none]) ∨ ∃ p0 x b, p = p0 ++ [x] ∧ Lit W (k0 + 1) [.pointer (some ⟨b, 0, none⟩)] ∧ Lit W b [.slice x.a x.e.key.length x.c, .int .i64 x.e.id] ∧ ¬ A b ∧ k0 + 1 < b

theorem encE_ten (x : CE) : (encE x).size = (#[10] : Array Tmp).size := rfl
theorem ord_own (w : World) (k0 n1 : Nat) (hn : w.heap.size ≤ n1) : OwnP n1 (OrdI w k0) := by
  refine ⟨fun h => h.lt, fun {A A' p W W'} h ht hA => ?_, fun {A p W W'} h hb => ?_⟩
  · have hsz := ht.size
    have hb := h.bel.size
    have l0 := h.res.lt
    have keep : ∀ {b : Nat} {vs : List Value}, Lit W b vs → ¬ A b → Lit W' b vs ∧ ¬ A' b := fun {b vs} hl hn => by
      refine ⟨hl.stay (ht.stay (G := fun k => k = b) fun k hk hx => hn (by rw [← hk]; exact hx.1)) rfl, fun hx => ?_⟩
      have := hl.lt
      exact ((hA b).1 hx).elim hn (fun hx => by omega)
    refine ⟨h.bel.trans (ht.below (fun k hk => Nat.le_trans hn hk.2) hb), fun k hk => ?_, ?_, (keep h.res h.nR).2, h.hE, (keep h.res h.nR).1, ?_⟩
    · rcases (hA k).1 hk with hk | hk
      · have := h.lt k hk; omega
      · exact hk.2
    · rcases h.box with ⟨_, hl⟩ | ⟨_, _, _, _, hl, _⟩
      · exact (keep hl h.nE).2
      · exact (keep hl h.nE).2
    · rcases h.box with ⟨e, hl⟩ | ⟨p0, x, b, e, hl, hx, hb, hk⟩
      · exact .inl ⟨e, (keep hl h.nE).1⟩
      · exact .inr ⟨p0, x, b, e, (keep hl h.nE).1, (keep hx hb).1, (keep hx hb).2, hk⟩
  · refine ⟨h.bel.trans (hb.mono h.bel.size), fun k hk => Nat.lt_of_lt_of_le (h.lt k hk) hb.size, h.nE, h.nR, h.hE, h.res.below hb, ?_⟩
    rcases h.box with ⟨e, hl⟩ | ⟨p0, x, b, e, hl, hx, hn, hk⟩
    · exact .inl ⟨e, hl.below hb⟩
    · exact .inr ⟨p0, x, b, e, hl.below hb, hx.below hb, hn, hk⟩

/-- One entry more. -/
theorem OrdI.next {w : World} {k0 : Nat} {A : Nat → Prop} {p : List CE} {W W4 : World} {x : CE} {b : Nat} (h : OrdI w k0 A p W) (hb : Below W.heap.size W W4) (hx : Lit W b [.slice x.a x.e.key.length x.c, .int .i64 x.e.id]) (hA : ¬ A b) (hk : k0 + 1 < b) :
    OrdI w k0 A (p ++ [x]) (W4.setCell ⟨k0 + 1, 0, none⟩ (.pointer (some ⟨b, 0, none⟩))) ∧ Stay A W (W4.setCell ⟨k0 + 1, 0, none⟩ (.pointer (some ⟨b, 0, none⟩))) := by
  have h4 := (ord_own w k0 w.heap.size (Nat.le_refl _)).grow h hb
  have hx4 := hx.below hb
  obtain ⟨v0, hl⟩ : ∃ v0, Lit W4 (k0 + 1) [v0] := by
    rcases h4.box with ⟨_, hl⟩ | ⟨_, _, _, _, hl, _⟩
    · exact ⟨_, hl⟩
    · exact ⟨_, hl⟩
  obtain ⟨W5, h5⟩ : ∃ W5, W4.setCell ⟨k0 + 1, 0, none⟩ (.pointer (some ⟨b, 0, none⟩)) = W5 := ⟨_, rfl⟩
  have tc : TouchC (fun k _ => k = k0 + 1) W4 W5 := by rw [← h5]; exact TouchC.setCell (F := fun k _ => k = k0 + 1) (TouchC.refl _ _) rfl _
  have l5 : Lit W5 (k0 + 1) [.pointer (some ⟨b, 0, none⟩)] := by rw [← h5]; exact lit_put_one hl rfl
  have hs5 := tc.size
  have hst : Stay A W4 W5 := tc.stay fun k q hk hf => h.nE (by rw [← hf]; exact hk)
  have hE := h.hE
  have hbw := h4.bel.size
  rw [h5]
  refine ⟨⟨h4.bel.trans ((tc.touch (G := fun k => w.heap.size ≤ k) fun k q _ hf => by omega).below (fun _ h => h) hbw), fun k hk => by have := h4.lt k hk; omega, h.nE, h.nR, hE, h4.res.touch tc (fun q hq => by omega), .inr ⟨p, x, b, rfl, l5, hx4.touch tc (fun q hq => by omega), hA, hk⟩⟩, (Stay.of_below hb).trans hst⟩

section
attribute [local go_sem] Oper.semAt_some
set_option maxRecDepth 100000 in
set_option maxHeartbeats 4000000 in
theorem ordered_is (w : World) (g : Nat) (L : List Ent) (F : Nat → Prop) (ht : Top w g L F) :
    Calls Try.prog 32 #[nodeV g] w fun e w' => e = .returned (.bool true) ∧ Below w.heap.size w w' := by
  have mixed : Try.prog.follows Departure.mixedOrders = true := by kernel_rfl
  obtain ⟨r, hl, hr⟩ := ht.lit
  obtain ⟨q, rfl⟩ := hr.ptr
  obtain ⟨S, hS, hKS, hcall⟩ := root_from hr []
  have hsrt : S.Pairwise (fun a b => ltE a.e b.e = true) := by
    have h1 : (entsC S).Pairwise (fun a b => ltE a b = true) := by rw [hS]; exact List.Pairwise.filter _ ht.srt
    exact List.pairwise_map.1 h1
  have b1 := Below.allocs w (.cells #[.bool false] 4)
  have b2 := Below.allocs (w.alloc (.cells #[.bool false] 4)) (.cells #[.pointer none] 77)
  have l1 := (Lit.new w [.bool false] 4 (by intro v hv; simp at hv; subst hv; rfl)).below b2
  have l2 := Lit.new (w.alloc (.cells #[.bool false] 4)) [.pointer none] 77 (by intro v hv; simp at hv; subst hv; rfl)
  rw [World.size_alloc] at l2
  obtain ⟨V, hV⟩ : ∃ V, (w.alloc (.cells #[.bool false] 4)).alloc (.cells #[.pointer none] 77) = V := ⟨_, rfl⟩
  obtain ⟨k0, hk0⟩ : ∃ k0, w.heap.size = k0 := ⟨_, rfl⟩
  have bV := below_tr b1 b2
  rw [show ([Value.bool false] : List Value).toArray = (#[.bool false] : Array Value) from rfl] at l1
  rw [show ([Value.pointer none] : List Value).toArray = (#[.pointer none] : Array Value) from rfl] at l2
  rw [hV] at bV l1 l2
  rw [hk0] at l1 l2
  have HV := Lib.hid hV
  have HK0 := Lib.hid hk0
  have HBV := Lib.hid bV
  have HL1 := Lib.hid l1
  have HL2 := Lib.hid l2
  have HSR := Lib.hid (And.intro hsrt hKS)
  have HC := Lib.hid hcall
  have HT := Lib.hid ht
  have c0 := hl.two.1
  have glt := hl.lt
  have hfr := from_of V.heap.size q none 0 0 V (Nat.le_refl _)
  have HFR := Lib.hid hfr
  have c0V : V.cell? ⟨g, 0, none⟩ = some (.pointer q) := (hl.below bV).two.1
  have gltV : g < V.heap.size := (hl.below bV).lt
  clear hl hr ht hS hKS hcall hsrt b1 b2 l1 l2 hV bV hk0 hfr
  unfold nodeV
  refine (callsIn_wide (n := 1)).1 ?_
  refine callsIn_of_wp_marks Try.func32 rfl trivial ?_ rfl
  simp only [Try.ntmps32, List.size_toArray, List.length_cons, List.length_nil, Nat.reduceAdd, Nat.reduceSub, Array.replicate_succ, Array.replicate_zero, List.push_toArray, List.append_toArray, List.nil_append, List.cons_append]
  refine wpIn_wide.2 ?_
  go_upto_region 2 with (fail)
  rw [HV.out]
  simp only [HK0.out]
  clear c0 glt
  go_wp2_with fail
  refine HFR.out.mono ?_
  rintro e v3 ⟨_, rfl, hv3, B, rfl, hBs, hB0, hB1⟩
  have BV3 := Lib.hid (below_tr HBV.out hv3)
  have HL13 := Lib.hid (HL1.out.below hv3)
  have HL23 := Lib.hid (HL2.out.below hv3)
  have hbl0 := World.block_lt_of_cell? _ _ hB0
  have hbl1 := World.block_lt_of_cell? _ _ hB1
  have hVs : k0 + 1 < V.heap.size := HL2.out.lt
  have HB : Hid ((k0 + 1 < B ∧ B + 1 < v3.heap.size) ∧ v3.cell? ⟨B, 0, none⟩ = some (.pointer q) ∧ v3.cell? ⟨B + 1, 0, none⟩ = some (.slice none 0 0)) := Lib.hid ⟨⟨by omega, by omega⟩, hB0, hB1⟩
  have HSZ : Hid (w.heap.size ≤ v3.heap.size) := Lib.hid BV3.out.size
  have HK3 : Hid (k0 + 1 < v3.heap.size) := Lib.hid (by have := hv3.size; omega)
  clear hBs hB0 hB1 hbl0 hbl1 hVs hv3 gltV c0V
  go_wp2_with fail
  refine (wpIn_wide (n := 1)).1 ?_
  refine wpIn_range (tellsE fun _ => True) (fun l => l <+: S) (OrdI w k0) (fun _ _ _ => False) (ord_own w k0 _ HSZ.out) (never_own _) (fun k => k < v3.heap.size ∧ k ≠ k0 ∧ k ≠ k0 + 1) [] S ?start rfl from_enters encE_ten (fun x W => W.alloc (.cells #[.slice x.a x.e.key.length x.c, .int .i64 x.e.id] 37)) (fun x W => Below.allocs _ _) .ret .ret (.inl ⟨rfl, rfl⟩) ?round ?call ?done ?stop
  case start => exact ⟨BV3.out, fun k hk => hk.1, fun hk => hk.2.2 rfl, fun hk => hk.2.1 rfl, by rw [HK0.out]; exact Nat.le_refl _, HL13.out, .inl ⟨rfl, HL23.out⟩⟩
  case stop => intro D A W q2 _ hx; exact hx.elim
  case call =>
    intro l2 nn J2 Jx2 A3 W3 hpar hJ3 hnn hA3 hst3
    have hb := HB.out
    have h0 : ∀ k, k < w.heap.size → k < v3.heap.size ∧ k ≠ k0 ∧ k ≠ k0 + 1 := fun k hk => by
      have h1 := HSZ.out
      have h2 := HK0.out
      exact ⟨by omega, by omega, by omega⟩
    have hsw : Stay (fun k => k < w.heap.size) w W3 := (Stay.of_below BV3.out).trans (hst3.mono h0)
    have q0 : B < v3.heap.size ∧ B ≠ k0 ∧ B ≠ k0 + 1 := ⟨by omega, by omega, by omega⟩
    have q1 : B + 1 < v3.heap.size ∧ B + 1 ≠ k0 ∧ B + 1 ≠ k0 + 1 := ⟨by omega, by omega, by omega⟩
    refine HC.out (fun _ => True) (fun l => l <+: S) l2 nn A3 J2 Jx2 [] B (B + 1) none 0 0 W3 (hsw.mono HT.out.lt) hpar (fun _ _ => trivial) hJ3 hnn (fun k hk => hA3 k (h0 k (HT.out.lt k hk))) (hA3 _ q0) (hA3 _ q1) ?_ ?_ rfl ⟨SlL.nil _ _ _ (Nat.zero_le _), fun h => absurd rfl h⟩ (fun q hq => hq)
    · rw [hst3.cell q0.1 q0]; exact hb.2.1
    · rw [hst3.cell q1.1 q1]; exact hb.2.2
  case round =>
    intro l2 x Wl hl2 hl2'
    simp only [encE]
    gi_wp2
    refine ⟨rfl, fun A3 p2 W2 hI2 _ hT2 hpl hA3 hst2 hAl hk hsz => ?_⟩
    have hne : Wl.heap.size ≠ l2 := by omega
    obtain ⟨b2, hb2⟩ : ∃ b2, Wl.heap.size = b2 := ⟨_, rfl⟩
    have hlx : Lit W2 b2 [.slice x.a x.e.key.length x.c, .int .i64 x.e.id] := by
      have h1 := Lit.entry Wl x.a x.e.key.length x.c x.e.id
      rw [hb2] at h1
      exact h1.stay (G := fun k => k = b2) ⟨Nat.le_of_eq hsz.symm, fun k _ hk' => hk k (by omega)⟩ rfl
    have hkb : k0 + 1 < b2 := by have := HK3.out; omega
    have hAb : ¬ A3 b2 := fun h => by have := hAl b2 h; omega
    have hend : ∀ w4, Below W2.heap.size W2 w4 → OrdI w k0 A3 (p2 ++ [x]) (w4.setCell ⟨k0 + 1, 0, none⟩ (.pointer (some ⟨b2, 0, none⟩))) ∧ Stay A3 W2 (w4.setCell ⟨k0 + 1, 0, none⟩ (.pointer (some ⟨b2, 0, none⟩))) := fun w4 hb => hI2.next hb hlx hAb hkb
    have hxS : x ∈ S := hpl.subset (by simp)
    have HEND := Lib.hid hend
    simp only [hb2]
    obtain ⟨x0, x1, _, _⟩ := hlx.two
    have xlt := hlx.lt
    rcases hI2.box with ⟨rfl, hbx⟩ | ⟨p0, y, b, rfl, hbx, hly, _, _⟩
    · have HLB := Lib.hid hbx
      have HRX : Hid (∀ w', Below W2.heap.size W2 w' → w'.cell? ⟨k0 + 1, 0, none⟩ = some (.pointer none) ∧ True) := Lib.hid (fun w' hb => ⟨(hbx.below hb).at' 0 _ rfl, trivial⟩)
      clear hI2 hT2 hpl hA3 hst2 hAl hk hsz hne hlx hAb hend hxS hbx x0 x1 xlt
      gi_wp2_with fail
      have hdr4 := below_drw W2
      try simp only [List.append_eq, List.cons_append, List.nil_append]
      refine RX.wpIn_region_plan (r := some l2) (fun w w' => Below w.heap.size w w') [.it (.pointer none), .it (.bool false), .it (.bool false), .it undef, .it undef, .it undef, .it undef, .it undef, .it undef, .it (.bool false)] (by kernel_rfl) (by kernel_rfl) (by kernel_rfl) (fun hlo => ?_) (fun _ => Below.refl _ _) (fun _ _ _ => below_tr) ?_
      · obtain ⟨aa, ww, hh⟩ := hlo
        rcases hh with ⟨hh, _⟩ | ⟨hh, _⟩ <;> cases hh
      refine RX.seqP_value (fun _ => Below.refl _ _) _ (by first | rfl | simp) (fun w' hw' hctx => ?_) ?_
      · obtain ⟨j0, j1⟩ := HRX.out w' (below_tr hdr4 hw')
        go_simp
        try first | with_reducible rfl | simp
      simp only [Act.put, List.setIfInBounds_toArray, List.set_cons_zero, List.set_cons_succ]
      refine RX.seqP_value (fun _ => Below.refl _ _) _ (by first | rfl | simp) (fun w' hw' hctx => ?_) ?_
      · go_simp
        try first | with_reducible rfl | simp
      simp only [Act.put, List.setIfInBounds_toArray, List.set_cons_zero, List.set_cons_succ]
      refine RX.seqP_value (fun _ => Below.refl _ _) _ (by first | rfl | simp) (fun w' hw' hctx => ?_) ?_
      · go_simp
        try first | with_reducible rfl | simp
      simp only [Act.put, List.setIfInBounds_toArray, List.set_cons_zero, List.set_cons_succ]
      refine RX.seqP_skip (by first | rfl | simp) ?_
      simp only [Act.put, List.setIfInBounds_toArray, List.set_cons_zero, List.set_cons_succ]
      refine RX.seqP_skip (by first | rfl | simp) ?_
      simp only [Act.put, List.setIfInBounds_toArray, List.set_cons_zero, List.set_cons_succ]
      refine RX.seqP_skip (by first | rfl | simp) ?_
      simp only [Act.put, List.setIfInBounds_toArray, List.set_cons_zero, List.set_cons_succ]
      refine RX.seqP_skip (by first | rfl | simp) ?_
      simp only [Act.put, List.setIfInBounds_toArray, List.set_cons_zero, List.set_cons_succ]
      refine RX.seqP_skip (by first | rfl | simp) ?_
      simp only [Act.put, List.setIfInBounds_toArray, List.set_cons_zero, List.set_cons_succ]
      refine RX.seqP_skip (by first | rfl | simp) ?_
      simp only [Act.put, List.setIfInBounds_toArray, List.set_cons_zero, List.set_cons_succ]
      refine RX.seqP_value (fun _ => Below.refl _ _) _ (by first | rfl | simp) (fun w' hw' hctx => ?_) ?_
      · go_simp
        try first | with_reducible rfl | simp
      simp only [Act.put, List.setIfInBounds_toArray, List.set_cons_zero, List.set_cons_succ]
      refine RX.seqP_nil (fun w4 hR hctx _ => ?_)
      have hv4 := below_tr hdr4 hR
      clear hctx hR
      have l4 := HLB.out.below hv4
      have d0 := l4.at' 0 _ rfl
      have d1 := l4.fz 0
      have dlt := l4.lt
      clear l4
      gi_wp2_with fail
      exact HEND.out _ hv4
    · have hlt : ltE y.e x.e = true := by
        have h1 := HSR.out.1.sublist hpl.sublist
        exact (List.pairwise_append.1 h1).2.2 y (by simp) x (by simp)
      have hcmp : cmpE ⟨y.e.key, y.e.id⟩ ⟨x.e.key, x.e.id⟩ = -1 := by unfold ltE at hlt; exact of_decide_eq_true hlt
      have hyS : y ∈ S := hpl.subset (by simp)
      have hky := HSR.out.2 y hyS
      have hkx := HSR.out.2 x hxS
      have hbel := hI2.bel
      have HCE : Hid (∀ w', Below W2.heap.size W2 w' → Calls Try.prog 39 #[.agg #[.slice y.a y.e.key.length y.c, .int .i64 y.e.id], .agg #[.slice x.a x.e.key.length x.c, .int .i64 x.e.id]] w' fun e w'' => e = .returned (.int .i64 (-1)) ∧ Below w'.heap.size w' w'') := Lib.hid (fun w' hb => cent_is y.a x.a y.c x.c _ _ y.e.key x.e.key y.e.id x.e.id (-1) rfl rfl hcmp w' ((hky.1.sl.below hbel).below hb) ((hkx.1.sl.below hbel).below hb))
      have HLB := Lib.hid hbx
      have HRX : Hid (∀ w', Below W2.heap.size W2 w' → w'.cell? ⟨k0 + 1, 0, none⟩ = some (.pointer (some ⟨b, 0, none⟩)) ∧ (w'.cell? ⟨b, 0, none⟩ = some (.slice y.a y.e.key.length y.c) ∧ w'.cell? ⟨b, 1, none⟩ = some (.int .i64 y.e.id)) ∧ (w'.cell? ⟨b2, 0, none⟩ = some (.slice x.a x.e.key.length x.c) ∧ w'.cell? ⟨b2, 1, none⟩ = some (.int .i64 x.e.id))) := Lib.hid (fun w' hb =>
        ⟨(hbx.below hb).at' 0 _ rfl, ⟨(hly.below hb).two.1, (hly.below hb).two.2.1⟩, ⟨(hlx.below hb).two.1, (hlx.below hb).two.2.1⟩⟩)
      clear hI2 hT2 hpl hA3 hst2 hAl hk hsz hne hlx hAb hend hxS hbx x0 x1 xlt hlt hcmp hyS hky hkx hbel hly
      gi_wp2_with fail
      have hdr4 := below_drw W2
      try simp only [List.append_eq, List.cons_append, List.nil_append]
      refine RX.wpIn_region_plan (r := some l2) (fun w w' => Below w.heap.size w w') [.it (.pointer (some ⟨b, 0, none⟩)), .it (.bool true), .it (.bool true), .it (.pointer (some ⟨b, 0, none⟩)), .it (.pointer (some ⟨b, 0, none⟩)), .it (.agg #[.slice y.a y.e.key.length y.c, .int .i64 y.e.id]), .it (.agg #[.slice x.a x.e.key.length x.c, .int .i64 x.e.id]), .it (.int .i64 (-1)), .it (.bool false), .it (.bool false)] (by kernel_rfl) (by kernel_rfl) (by kernel_rfl) (fun hlo => ?_) (fun _ => Below.refl _ _) (fun _ _ _ => below_tr) ?_
      · obtain ⟨aa, ww, hh⟩ := hlo
        rcases hh with ⟨hh, _⟩ | ⟨hh, _⟩ <;> cases hh
      refine RX.seqP_value (fun _ => Below.refl _ _) _ (by first | rfl | simp) (fun w' hw' hctx => ?_) ?_
      · obtain ⟨j0, j1, j2⟩ := HRX.out w' (below_tr hdr4 hw')
        obtain ⟨j3, j4⟩ := j1
        obtain ⟨j5, j6⟩ := j2
        go_simp
        try first | with_reducible rfl | simp
      simp only [Act.put, List.setIfInBounds_toArray, List.set_cons_zero, List.set_cons_succ]
      refine RX.seqP_value (fun _ => Below.refl _ _) _ (by first | rfl | simp) (fun w' hw' hctx => ?_) ?_
      · go_simp
        try first | with_reducible rfl | simp
      simp only [Act.put, List.setIfInBounds_toArray, List.set_cons_zero, List.set_cons_succ]
      refine RX.seqP_value (fun _ => Below.refl _ _) _ (by first | rfl | simp) (fun w' hw' hctx => ?_) ?_
      · go_simp
        try first | with_reducible rfl | simp
      simp only [Act.put, List.setIfInBounds_toArray, List.set_cons_zero, List.set_cons_succ]
      refine RX.seqP_value (fun _ => Below.refl _ _) _ (by first | rfl | simp) (fun w' hw' hctx => ?_) ?_
      · obtain ⟨j0, j1, j2⟩ := HRX.out w' (below_tr hdr4 hw')
        obtain ⟨j3, j4⟩ := j1
        obtain ⟨j5, j6⟩ := j2
        go_simp
        try first | with_reducible rfl | simp
      simp only [Act.put, List.setIfInBounds_toArray, List.set_cons_zero, List.set_cons_succ]
      refine RX.seqP_value (fun _ => Below.refl _ _) _ (by first | rfl | simp) (fun w' hw' hctx => ?_) ?_
      · go_simp
        try first | with_reducible rfl | simp
      simp only [Act.put, List.setIfInBounds_toArray, List.set_cons_zero, List.set_cons_succ]
      refine RX.seqP_value (fun _ => Below.refl _ _) _ (by first | rfl | simp) (fun w' hw' hctx => ?_) ?_
      · obtain ⟨j0, j1, j2⟩ := HRX.out w' (below_tr hdr4 hw')
        obtain ⟨j3, j4⟩ := j1
        obtain ⟨j5, j6⟩ := j2
        go_simp
        try first | with_reducible rfl | simp
      simp only [Act.put, List.setIfInBounds_toArray, List.set_cons_zero, List.set_cons_succ]
      refine RX.seqP_value (fun _ => Below.refl _ _) _ (by first | rfl | simp) (fun w' hw' hctx => ?_) ?_
      · obtain ⟨j0, j1, j2⟩ := HRX.out w' (below_tr hdr4 hw')
        obtain ⟨j3, j4⟩ := j1
        obtain ⟨j5, j6⟩ := j2
        go_simp
        try first | with_reducible rfl | simp
      simp only [Act.put, List.setIfInBounds_toArray, List.set_cons_zero, List.set_cons_succ]
      refine RX.seqP_call (39) #[.agg #[.slice y.a y.e.key.length y.c, .int .i64 y.e.id], .agg #[.slice x.a x.e.key.length x.c, .int .i64 x.e.id]] (.int .i64 (-1)) (by first | rfl | simp) (fun w' hw' hctx => ?_) (fun w' hw' hctx => HCE.out w' (below_tr hdr4 hw')) ?_
      · go_simp
      simp only [Act.put, List.setIfInBounds_toArray, List.set_cons_zero, List.set_cons_succ]
      refine RX.seqP_value (fun _ => Below.refl _ _) _ (by first | rfl | simp) (fun w' hw' hctx => ?_) ?_
      · go_simp
        try first | with_reducible rfl | simp
      simp only [Act.put, List.setIfInBounds_toArray, List.set_cons_zero, List.set_cons_succ]
      refine RX.seqP_value (fun _ => Below.refl _ _) _ (by first | rfl | simp) (fun w' hw' hctx => ?_) ?_
      · go_simp
        try first | with_reducible rfl | simp
      simp only [Act.put, List.setIfInBounds_toArray, List.set_cons_zero, List.set_cons_succ]
      refine RX.seqP_nil (fun w4 hR hctx _ => ?_)
      have hv4 := below_tr hdr4 hR
      clear hctx hR
      have l4 := HLB.out.below hv4
      have d0 := l4.at' 0 _ rfl
      have d1 := l4.fz 0
      have dlt := l4.lt
      clear l4
      gi_wp2_with fail
      have hE := HEND.out _ hv4
      rw [List.append_assoc] at hE
      exact hE
  case done =>
    intro D A2 W2 hI hA hst hD hDn hDb
    have lR := hI.res
    have d0 := lR.at' 0 _ rfl
    have d1 := lR.fz 0
    have dlt := lR.lt
    obtain ⟨W4, hW4⟩ : ∃ W4, W2.setCell ⟨k0, 0, none⟩ (.bool true) = W4 := ⟨_, rfl⟩
    have tc : TouchC (fun k _ => k = k0) W2 W4 := by rw [← hW4]; exact TouchC.setCell (F := fun k _ => k = k0) (TouchC.refl _ _) rfl _
    have l4 : Lit W4 k0 [.bool true] := by rw [← hW4]; exact lit_put_one lR rfl
    have hst4 : Stay A2 W2 W4 := tc.stay fun k q hk hf => hI.nR (by rw [← hf]; exact hk)
    have HMK : Hid (Marks A2 v3.heap.size W4 [{ target := .collected D, args := #[] }] [D]) := Lib.hid (((Marks.nil _ _ _).cons hD hDn hDb (by simp)).stay (fun _ h => h) hst4)
    have hbw : Below w.heap.size w W4 := hI.bel.trans ((tc.touch (G := fun k => w.heap.size ≤ k) fun k q _ hf => by rw [hf]; exact hI.hE).below (fun _ h => h) hI.bel.size)
    have HE := Lib.hid (And.intro l4 hbw)
    have HW4 := Lib.hid hW4
    clear hI hA hst hD hDn hDb lR tc l4 hst4 hbw hW4
    go_wp2_with fail
    rw [HW4.out]
    refine HMK.out.leaves fun W' htt hss => ?_
    have hl : Lit W' k0 [.bool true] := HE.out.1.stay (htt.stay (G := fun k => k = k0) fun k hk hx => by have := HK3.out; omega) rfl
    have e0 := hl.at' 0 _ rfl
    refine ⟨.bool true, ?_, rfl, HE.out.2.trans (htt.below (fun k hk => Nat.le_trans HSZ.out hk.2) HE.out.2.size)⟩
    simp [results, Try.results32, go_sem, e0]
end

theorem twell_is (w : World) (g : Nat) (L : List Ent) (F : Nat → Prop) (hL : L.length ≤ 2000) (ht : Top w g L F) :
    Calls Try.prog 12 #[nodeV g] w fun e w' => e = .returned (.bool true) ∧ Below w.heap.size w w' := by
  have h1 := formed_is w g L F hL ht
  have h2 := fun W (hb : Below w.heap.size w W) => ordered_is W g L F (ht.stay (Stay.of_below hb))
  have H1 := Lib.hid h1
  have H2 := Lib.hid h2
  clear h1 h2 ht
  unfold nodeV at H1 H2 ⊢
  go_enter Try.func12, Try.ntmps12
  go_wp2_with fail
  refine H1.out.mono ?_
  rintro e w1 ⟨rfl, hb1⟩
  have h2 := H2.out w1 hb1
  have HB1 := Lib.hid hb1
  clear hb1
  go_wp2_with fail
  refine h2.mono ?_
  rintro e w2 ⟨rfl, hb2⟩
  have HB2 := Lib.hid hb2
  clear hb2 h2
  go_wp2_with fail
  go_ret
  exact ⟨rfl, below_tr HB1.out HB2.out⟩

end Go.Proofs.Ytfikaccgpjiedaa

/-
  Walk: walked.
-/
namespace Go.Proofs.Ytfikaccgpjiedaa
open Go.RowKit Go.Lib

theorem Cl1.stay {B g : Nat} {es : List CE} {i : Nat} {W W' : World} {a : Option Addr} {c : Nat} {es' : List CE} {K' G : Nat → Prop} (h : Cl1 B g es i W a c es' K') (hs : Stay G W W') (h1 : ∀ k p, SlF 2 a c k p → G k) (h2 : ∀ k, K' k → G k) : Cl1 B g es i W' a c es' K' :=
  ⟨h.row.stay hs h1, h.len, h.ent, fun x hx => (h.key x hx).stay (hs.mono h2), h.new, fun k hk => ⟨(h.keys k hk).1, (h.keys k hk).2.1, Nat.lt_of_lt_of_le (h.keys k hk).2.2 hs.size⟩⟩
theorem Cl1.more {B g : Nat} {es : List CE} {W : World} {a : Option Addr} {c : Nat} {es' : List CE} {K' : Nat → Prop} (h : Cl1 B g es es.length W a c es' K') (x : CE) : Cl1 B g (es ++ [x]) es.length W a c es' K' := by
  refine ⟨h.row, h.len, ?_, h.key, h.new, h.keys⟩
  have e : entsC (es ++ [x]) = entsC es ++ [x.e] := by simp [entsC]
  rw [h.ent, e, List.take_of_length_le (by rw [entsC_len]; exact Nat.le_refl _), List.take_append_of_le_length (by rw [entsC_len]; exact Nat.le_refl _), List.take_of_length_le (by rw [entsC_len]; exact Nat.le_refl _)]

/-- What Walk has put together so far. -/
structure WalkR (w : World) (E : Nat) (A : Nat → Prop) (p : List CE) (a1 : Option Addr) (c1 : Nat) (es' : List CE) (K' : Nat → Prop) (W : World) : Prop where
  bel : Below w.heap.size w W
  lt : ∀ k, A k → k < W.heap.size
  nE : ¬ A E
  hE : w.heap.size ≤ E
  box : Lit W E [.slice a1 p.length c1]
  cl : Cl1 w.heap.size E p p.length W a1 c1 es' K'
  new : ∀ k q, SlF 2 a1 c1 k q → ¬ A k
  nK : ∀ k, K' k → ¬ A k

def WalkI (w : World) (E : Nat) (c : CE → Bool) (A : Nat → Prop) (p : List CE) (W : World) : Prop := (∃ a1 c1 es' K', WalkR w E A p a1 c1 es' K' W) ∧ ∀ y ∈ p, c y = true
def WalkX (w : World) (E : Nat) (c : CE → Bool) (A : Nat → Prop) (p : List CE) (W : World) : Prop := ∃ p0 x, p = p0 ++ [x] ∧ c x = false ∧ WalkI w E c A p0 W

theorem WalkR.own {w : World} {E n1 : Nat} {A A' : Nat → Prop} {p : List CE} {a1 : Option Addr} {c1 : Nat} {es' : List CE} {K' : Nat → Prop} {W W' : World} (hn : w.heap.size ≤ n1) (h : WalkR w E A p a1 c1 es' K' W) (ht : Touch (fun k => A k ∧ n1 ≤ k) W W') (hA : ∀ k, A' k ↔ A k ∨ (W.heap.size ≤ k ∧ k < W'.heap.size)) : WalkR w E A' p a1 c1 es' K' W' := by
  have hsz := ht.size
  have hb := h.bel.size
  have hel := h.box.lt
  have hrl := h.cl.row.lt
  refine ⟨h.bel.trans (ht.below (fun k hk => Nat.le_trans hn hk.2) hb), fun k hk => ?_, fun hk => ?_, h.hE, h.box.stay (ht.stay (G := fun k => k = E) fun k hk hx => ?_) rfl, h.cl.stay (ht.stay (G := fun k => (∃ q, SlF 2 a1 c1 k q) ∨ K' k) fun k hk hx => ?_) (fun k q hq => .inl ⟨q, hq⟩) (fun k hk => .inr hk), fun k q hq hk => ?_, fun k hk hx => ?_⟩
  · rcases (hA k).1 hk with hk | hk
    · have := h.lt k hk; omega
    · exact hk.2
  · rcases (hA E).1 hk with hk | hk
    · exact h.nE hk
    · omega
  · subst hk; exact h.nE hx.1
  · rcases hk with ⟨q, hq⟩ | hk
    · exact h.new k q hq hx.1
    · exact h.nK k hk hx.1
  · have := hrl k q hq
    exact ((hA k).1 hk).elim (h.new k q hq) (fun h => by omega)
  · have := (h.cl.keys k hk).2.2
    exact ((hA k).1 hx).elim (h.nK k hk) (fun h => by omega)

theorem WalkR.grow {w : World} {E : Nat} {A : Nat → Prop} {p : List CE} {a1 : Option Addr} {c1 : Nat} {es' : List CE} {K' : Nat → Prop} {W W' : World} (h : WalkR w E A p a1 c1 es' K' W) (hb : Below W.heap.size W W') : WalkR w E A p a1 c1 es' K' W' :=
  ⟨h.bel.trans (hb.mono h.bel.size), fun k hk => Nat.lt_of_lt_of_le (h.lt k hk) hb.size, h.nE, h.hE, h.box.below hb, h.cl.below hb, h.new, h.nK⟩

theorem walkI_own (w : World) (E n1 : Nat) (c : CE → Bool) (hn : w.heap.size ≤ n1) : OwnP n1 (WalkI w E c) :=
  ⟨fun ⟨⟨_, _, _, _, h⟩, _⟩ => h.lt, fun ⟨⟨a1, c1, es', K', h⟩, hc⟩ ht hA => ⟨⟨a1, c1, es', K', h.own hn ht hA⟩, hc⟩, fun ⟨⟨a1, c1, es', K', h⟩, hc⟩ hb => ⟨⟨a1, c1, es', K', h.grow hb⟩, hc⟩⟩
theorem walkX_own (w : World) (E n1 : Nat) (c : CE → Bool) (hn : w.heap.size ≤ n1) : OwnP n1 (WalkX w E c) :=
  ⟨fun ⟨_, _, _, _, h⟩ => (walkI_own w E n1 c hn).lt h, fun ⟨p0, x, e, hx, h⟩ ht hA => ⟨p0, x, e, hx, (walkI_own w E n1 c hn).own h ht hA⟩, fun ⟨p0, x, e, hx, h⟩ hb => ⟨p0, x, e, hx, (walkI_own w E n1 c hn).grow h hb⟩⟩

/-- One entry more. -/
theorem WalkR.next {w : World} {E : Nat} {A : Nat → Prop} {p : List CE} {a1 : Option Addr} {c1 : Nat} {es' : List CE} {K' : Nat → Prop} {W W3 W4 W5 : World} {x y : CE} (h : WalkR w E A p a1 c1 es' K' W) (h3 : Below W.heap.size W W3) (h4 : Below W3.heap.size W3 W4) (hy : SlG (fun k => W.heap.size ≤ k) W3 y.a y.c y.e.key) (hye : y.e = x.e) (hid : I64 x.e.id ∧ x.e.key.length ≤ 1000000)
    {a' : Option Addr} {c' : Nat} (hr : RowS 2 W5 a' (p.length + 1) c' (flatC es' ++ y.cs)) (hsub : ∀ k q, SlF 2 a' c' k q → SlF 2 a1 c1 k q ∨ W4.heap.size ≤ k) (ht : TouchC (SlF 2 a1 c1) W4 W5) :
    WalkR w E A (p ++ [x]) a' c' (es' ++ [y]) (fun k => K' k ∨ (W.heap.size ≤ k ∧ k < W3.heap.size)) (W5.setCell ⟨E, 0, none⟩ (.slice a' (p.length + 1) c')) ∧ Stay A W (W5.setCell ⟨E, 0, none⟩ (.slice a' (p.length + 1) c')) := by
  obtain ⟨W6, h6⟩ : ∃ W6, W5.setCell ⟨E, 0, none⟩ (.slice a' (p.length + 1) c') = W6 := ⟨_, rfl⟩
  have hs3 := h3.size
  have hs4 := h4.size
  have hs5 := ht.size
  have hel := h.box.lt
  have hsb := h.bel.size
  have h34 := below_tr h3 h4
  have tc : TouchC (fun k _ => k = E) W5 W6 := by rw [← h6]; exact TouchC.setCell (F := fun k _ => k = E) (TouchC.refl _ _) rfl _
  have hs6 := tc.size
  have hat3 : TouchC (SlF 2 a1 c1) W3 W5 := (TouchC.of_below h4).trans ht (fun _ _ _ h => h)
  have hn1 := (h.cl.more x).next (y := y) (x := x) (W3 := W3) (W5 := W5) hsb hel (by simp) h3 hy hye hid hr (fun k q hq => (hsub k q hq).imp id (fun h => by omega)) hat3
  have b5 : Lit W5 E [.slice a1 p.length c1] := (h.box.below h34).touch ht (fun q hq => (h.cl.new E q hq).2.1 rfl)
  have b6 : Lit W6 E [.slice a' (p.length + 1) c'] := by rw [← h6]; exact lit_put_one b5 rfl
  have hst : Stay A W W6 := (Stay.of_below h34).trans ((ht.stay fun k q hk hf => h.new k q hf hk).trans (tc.stay fun k q hk hf => h.nE (by rw [← hf]; exact hk)))
  have hbel : Below w.heap.size w W6 := (h.bel.trans (h34.mono hsb)).trans (((ht.touch (G := fun k => w.heap.size ≤ k) fun k q _ hf => (h.cl.new k q hf).1).below (fun _ h => h) (by omega)).trans ((tc.touch (G := fun k => w.heap.size ≤ k) fun k q _ hf => by rw [hf]; exact h.hE).below (fun _ h => h) (by omega)))
  rw [h6]
  refine ⟨⟨hbel, fun k hk => ?_, h.nE, h.hE, by rw [List.length_append]; exact b6, ?_, fun k q hq hk => ?_, fun k hk hx => ?_⟩, hst⟩
  · have := h.lt k hk; omega
  · rw [List.length_append]
    exact hn1.touch tc (fun k q hx he => (hn1.new k q hx).2.1 he) (fun k _ hx he => (hn1.keys k hx).2.1 he)
  · rcases hsub k q hq with h1 | h1
    · exact h.new k q h1 hk
    · have := h.lt k hk; omega
  · rcases hk with hk | hk
    · exact h.nK k hk hx
    · have := h.lt k hx; omega

/-! ### What comes of it -/

def upTo (hi : List Val) (x : CE) : Bool := hi.isEmpty || ltK x.e.key hi

theorem walk_ents {L : List Ent} {lo hi : List Val} {S m : List CE} (hS : entsC S = L.filter (fun e => !ltK e.key lo)) (hm : S.filter (upTo hi) = m) : entsC m = walkE lo hi L := by
  have e1 : entsC m = (entsC S).filter (fun e => hi.isEmpty || ltK e.key hi) := by
    rw [← hm]
    unfold entsC
    rw [List.filter_map]
    rfl
  rw [e1, hS, List.filter_filter]
  unfold walkE
  refine List.filter_congr fun e _ => ?_
  rw [Bool.and_comm]

theorem walk_srt {L : List Ent} {lo hi : List Val} {S : List CE} (hs : Srt ltE L) (hS : entsC S = L.filter (fun e => !ltK e.key lo)) : S.Pairwise (fun a b => upTo hi b = true → upTo hi a = true) := by
  have h1 : (entsC S).Pairwise (fun a b => ltE a b = true) := by rw [hS]; exact List.Pairwise.filter _ hs
  have h3 := List.pairwise_map.1 h1
  refine h3.imp fun {a b} hab hk => ?_
  unfold upTo at hk ⊢
  cases hh : hi.isEmpty with
  | true => rfl
  | false =>
    rw [hh, Bool.false_or] at hk
    rw [Bool.false_or]
    exact ltK_down hab hk

theorem walk_end {w : World} {E : Nat} {A : Nat → Prop} {m S : List CE} {a1 : Option Addr} {c1 : Nat} {es' : List CE} {K' : Nat → Prop} {W : World} {lo hi : List Val} {L : List Ent} (h : WalkR w E A m a1 c1 es' K' W) (hS : entsC S = L.filter (fun e => !ltK e.key lo)) (hm : S.filter (upTo hi) = m) :
    SlEn (fun k => w.heap.size ≤ k ∧ k < W.heap.size) W a1 c1 (walkE lo hi L) ∧ m.length = (walkE lo hi L).length ∧ S.filter (upTo hi) = m := by
  have e := walk_ents hS hm
  have e2 : entsC es' = walkE lo hi L := by rw [← e, h.cl.ent, List.take_of_length_le (by rw [entsC_len]; exact Nat.le_refl _)]
  have hml : m.length = (walkE lo hi L).length := by rw [← e, entsC_len]
  have hel : es'.length = m.length := h.cl.len
  refine ⟨?_, hml, hm⟩
  rw [← e2]
  refine ⟨by rw [entsC_len, hel]; exact h.cl.row.nc, h.cl.row.cm, fun hne => ?_, fun y hy => ?_⟩
  · have hrl := h.cl.row.lt
    have hnew := h.cl.new
    have hrow := h.cl.row
    have hpos : 0 < es'.length := by
      cases es' with
      | nil => exact absurd rfl hne
      | cons x l => simp
    rcases hrow.at' with ⟨_, h0⟩ | ⟨b, o, rfl, hb, hc, _⟩
    · have := hrow.nc; omega
    · refine ⟨b, o, rfl, fun i y hy => ?_⟩
      obtain ⟨x, hx, rfl⟩ : ∃ x, es'[i]? = some x ∧ x.e = y := by
        unfold entsC at hy
        rw [List.getElem?_map] at hy
        obtain ⟨x, h1, h2⟩ := Option.map_eq_some_iff.1 hy
        exact ⟨x, h1, h2⟩
      obtain ⟨b', o', e3, d0, d1, _, _, _⟩ := ent_at (by rw [← hel] at hrow; exact hrow) hx
      cases e3
      have hkx := h.cl.key x (List.mem_of_getElem? hx)
      have hil := (List.getElem?_eq_some_iff.1 hx).1
      refine ⟨x.a, x.c, d0, d1, hkx.1.mono fun k hk hK => ⟨(h.cl.keys k hK).1, hk⟩, hb, (hnew b (o + i * 2) (slf_some.2 ⟨rfl, by omega, ?_⟩)).1, hb⟩
      have h1 := hrow.nc
      have h2 : (i + 1) * 2 ≤ c1 * 2 := Nat.mul_le_mul_right _ (by omega)
      omega
  · obtain ⟨x, hx, rfl⟩ := List.mem_map.1 hy
    exact (h.cl.key x hx).2.1

theorem WalkR.anti {w : World} {E : Nat} {A A' : Nat → Prop} {p : List CE} {a1 : Option Addr} {c1 : Nat} {es' : List CE} {K' : Nat → Prop} {W : World} (h : WalkR w E A p a1 c1 es' K' W) (hA : ∀ k, A' k → A k) : WalkR w E A' p a1 c1 es' K' W :=
  ⟨h.bel, fun k hk => h.lt k (hA k hk), fun hk => h.nE (hA E hk), h.hE, h.box, h.cl, fun k q hq hk => h.new k q hq (hA k hk), fun k hk hx => h.nK k hk (hA k hx)⟩


section
attribute [local go_sem] Oper.semAt_some
set_option maxRecDepth 100000 in
set_option maxHeartbeats 4000000 in
theorem twalk_is (w : World) (g : Nat) (L : List Ent) (F : Nat → Prop) (a a2 : Option Addr) (c c2 n n2 : Nat) (lo hi : List Val) (hn : lo.length = n) (hn2 : hi.length = n2) (hL : L.length ≤ 2000) (hk : SlL w a c lo) (hk2 : SlL w a2 c2 hi) (ht : Top w g L F) :
    Calls Try.prog 16 #[nodeV g, .slice a n c, .slice a2 n2 c2] w fun e w' => ∃ a1 c1, e = .returned (.slice a1 (walkE lo hi L).length c1) ∧ SlEn (fun k => w.heap.size ≤ k ∧ k < w'.heap.size) w' a1 c1 (walkE lo hi L) ∧ Below w.heap.size w w' := by
  have mixed : Try.prog.follows Departure.mixedOrders = true := by kernel_rfl
  obtain ⟨r, hl, hr⟩ := ht.lit
  obtain ⟨q, rfl⟩ := hr.ptr
  obtain ⟨S, hS, _, hcall⟩ := root_from hr lo
  have hSl : S.length ≤ 2000 := by
    have h1 : (entsC S).length = S.length := List.length_map _
    have h2 := List.length_filter_le (fun e : Ent => !ltK e.key lo) L
    rw [← hS] at h2
    omega
  have hsrt := walk_srt (hi := hi) ht.srt hS
  have b1 := Below.allocs w (.cells #[.slice a2 n2 c2] 27)
  have b2 := Below.allocs (w.alloc (.cells #[.slice a2 n2 c2] 27)) (.cells #[.slice none 0 0] 33)
  have l1 := (Lit.new w [.slice a2 n2 c2] 27 (by intro v hv; simp at hv; subst hv; rfl)).below b2
  have l2 := Lit.new (w.alloc (.cells #[.slice a2 n2 c2] 27)) [.slice none 0 0] 33 (by intro v hv; simp at hv; subst hv; rfl)
  rw [World.size_alloc] at l2
  obtain ⟨V, hV⟩ : ∃ V, (w.alloc (.cells #[.slice a2 n2 c2] 27)).alloc (.cells #[.slice none 0 0] 33) = V := ⟨_, rfl⟩
  obtain ⟨k0, hk0⟩ : ∃ k0, w.heap.size = k0 := ⟨_, rfl⟩
  have bV := below_tr b1 b2
  rw [show ([Value.slice a2 n2 c2] : List Value).toArray = (#[.slice a2 n2 c2] : Array Value) from rfl] at l1
  rw [show ([Value.slice none 0 0] : List Value).toArray = (#[.slice none 0 0] : Array Value) from rfl] at l2
  rw [hV] at bV l1 l2
  rw [hk0] at l1 l2
  have HV := Lib.hid hV
  have HK0 := Lib.hid hk0
  have HBV := Lib.hid bV
  have HL1 := Lib.hid l1
  have HL2 := Lib.hid l2
  have HSR := Lib.hid (And.intro hS (And.intro hSl hsrt))
  have HC := Lib.hid hcall
  have HK := Lib.hid (And.intro hk hk2)
  have HT := Lib.hid ht
  have HN := Lib.hid (And.intro hn hn2)
  have glt := hl.lt
  have c0 := hl.two.1
  have c0V : V.cell? ⟨g, 0, none⟩ = some (.pointer q) := (hl.below bV).two.1
  have gltV : g < V.heap.size := (hl.below bV).lt
  have hfr := from_of V.heap.size q a n c V (Nat.le_refl _)
  have HFR := Lib.hid hfr
  clear hl hr ht hS hSl hcall hsrt b1 b2 l1 l2 hV bV hk hk2 hn hn2 hk0 hfr
  unfold nodeV
  refine (callsIn_wide (n := 1)).1 ?_
  refine callsIn_of_wp_marks Try.func16 rfl trivial ?_ rfl
  simp only [Try.ntmps16, List.size_toArray, List.length_cons, List.length_nil, Nat.reduceAdd, Nat.reduceSub, Array.replicate_succ, Array.replicate_zero, List.push_toArray, List.append_toArray, List.nil_append, List.cons_append]
  refine wpIn_wide.2 ?_
  go_upto_region 4 with (fail)
  rw [HV.out]
  simp only [HK0.out]
  clear glt c0
  go_wp2_with fail
  refine HFR.out.mono ?_
  rintro e v3 ⟨_, rfl, hv3, B, rfl, hBs, hB0, hB1⟩
  have BV3 := Lib.hid (below_tr HBV.out hv3)
  have HE3 : Hid (Lit v3 (k0 + 1) [.slice none 0 0]) := Lib.hid (HL2.out.below hv3)
  have HK3 : Hid (v3.cell? ⟨k0, 0, none⟩ = some (.slice a2 n2 c2)) := Lib.hid ((HL1.out.below hv3).at' 0 _ rfl)
  have hbl0 := World.block_lt_of_cell? _ _ hB0
  have hbl1 := World.block_lt_of_cell? _ _ hB1
  have hVs : k0 + 1 < V.heap.size := HL2.out.lt
  have HB : Hid ((k0 + 1 < B ∧ B + 1 < v3.heap.size) ∧ v3.cell? ⟨B, 0, none⟩ = some (.pointer q) ∧ v3.cell? ⟨B + 1, 0, none⟩ = some (.slice a n c)) := Lib.hid ⟨⟨by omega, by omega⟩, hB0, hB1⟩
  have HSZ : Hid (w.heap.size ≤ v3.heap.size) := Lib.hid BV3.out.size
  clear hBs hB0 hB1 hbl0 hbl1 hVs hv3 gltV c0V
  go_wp2_with fail
  refine (wpIn_wide (n := 1)).1 ?_
  refine wpIn_range (tellsE fun _ => True) (fun l => l.length ≤ S.length) (WalkI w (k0 + 1) (upTo hi)) (WalkX w (k0 + 1) (upTo hi)) (walkI_own w (k0 + 1) _ _ HSZ.out) (walkX_own w (k0 + 1) _ _ HSZ.out) (fun k => k < v3.heap.size ∧ k ≠ k0 + 1) [] S ?start rfl from_enters encE_size (fun x W => W.alloc (.cells #[.slice x.a x.e.key.length x.c, .int .i64 x.e.id] 37)) (fun x W => Below.allocs _ _) (.exit 0) (.exit 0) (.inr ⟨0, rfl, rfl⟩) ?round ?call ?done ?stop
  case start =>
    refine ⟨⟨none, 0, [], fun _ => False, BV3.out, fun k hk => hk.1, fun hk => hk.2 rfl, by rw [HK0.out]; omega, HE3.out, ⟨RowS.nil _ _, rfl, rfl, fun _ h => absurd h List.not_mem_nil, fun k p hk => absurd hk (slf_nil _ _ _ _), fun _ h => h.elim⟩, fun k q hq => absurd hq (slf_nil _ _ _ _), fun _ h => h.elim⟩, fun _ h => absurd h List.not_mem_nil⟩
  case round =>
    intro l2 x Wl hl2 hl2'
    simp only [encE]
    gi_wp2
    refine ⟨rfl, fun A3 p2 W2 _ hI2 hT2 hpl hA3 hst2 hAl hk _ => ?_⟩
    have hnl := Lit.entry Wl x.a x.e.key.length x.c x.e.id
    have hne : Wl.heap.size ≠ l2 := by omega
    have e0 : W2.cell? ⟨Wl.heap.size, 0, none⟩ = some (.slice x.a x.e.key.length x.c) := by rw [World.cell?_of_block (hk _ hne)]; exact hnl.at' 0 _ rfl
    have e1 : W2.cell? ⟨Wl.heap.size, 1, none⟩ = some (.int .i64 x.e.id) := by rw [World.cell?_of_block (hk _ hne)]; exact hnl.at' 1 _ rfl
    have e2 : W2.cell? ⟨k0, 0, none⟩ = some (.slice a2 n2 c2) := by
      have hlt := World.block_lt_of_cell? _ _ HK3.out
      rw [hst2.cell hlt ⟨hlt, Nat.ne_of_lt (Nat.lt_succ_self _)⟩]
      exact HK3.out
    obtain ⟨A4, hA4⟩ : ∃ A4 : Nat → Prop, (fun k => A3 k ∨ (Wl.heap.size ≤ k ∧ k < W2.heap.size)) = A4 := ⟨_, rfl⟩
    have hb4 : ∀ k, Wl.heap.size ≤ k → k < W2.heap.size → A4 k := fun k h1 h2 => by rw [← hA4]; exact .inr ⟨h1, h2⟩
    have HSUB4 : Hid (∀ k, A3 k → A4 k) := Lib.hid (fun k hk => by rw [← hA4]; exact .inl hk)
    rw [hA4] at hI2
    obtain ⟨⟨a1, c1, es', K', hR⟩, hall⟩ := hI2
    obtain ⟨rc, hrc⟩ : ∃ rc, cmpL x.e.key hi = rc := ⟨_, rfl⟩
    have hkk : SlL W2 a2 c2 hi := HK.out.2.below hR.bel
    have hcon := ckey_is x.a a2 x.c c2 x.e.key.length n2 x.e.key hi x.e.id rc rfl HN.out.2 hrc W2 hT2.1.1.sl hkk
    have blt := World.block_lt_of_cell? _ _ e0
    have klt := World.block_lt_of_cell? _ _ e2
    have hnb : ∀ q, ¬ SlF 2 a1 c1 Wl.heap.size q := fun q hq => hR.new _ q hq (hb4 _ (Nat.le_refl _) blt)
    have HCON := Lib.hid hcon
    have HR := Lib.hid (And.intro hR hall)
    have hpl' : p2.length < S.length := by
      have h : (p2 ++ [x]).length ≤ S.length := hpl
      rw [List.length_append, List.length_singleton] at h
      omega
    have HX := Lib.hid (And.intro hT2.1 hpl')
    have HRC := Lib.hid hrc
    obtain ⟨b, hb⟩ : ∃ b, Wl.heap.size = b := ⟨_, rfl⟩
    simp only [hb] at e0 e1 blt hnb ⊢
    have HNB := Lib.hid hnb
    have HEW : Hid (W2.cell? ⟨b, 0, none⟩ = some (.slice x.a x.e.key.length x.c) ∧ W2.cell? ⟨b, 1, none⟩ = some (.int .i64 x.e.id) ∧ b < W2.heap.size) := Lib.hid ⟨e0, e1, blt⟩
    clear hnl hk hT2 hpl hA3 hst2 hR hall hkk hcon hrc hAl hne hA4 hb4 hnb
    by_cases hn0 : n2 = 0
    · subst hn0
      have hup : upTo hi x = true := by
        have : hi = [] := List.eq_nil_of_length_eq_zero HN.out.2
        rw [this]; rfl
      have HUP := Lib.hid hup
      clear hup
      gi_wp2_with fail
      refine ⟨trivial, ?_⟩
      gi_wp2_with fail
      clear e0 e1 e2 blt klt
      obtain ⟨w3, hw3⟩ : ∃ w3, W2 = w3 := ⟨_, rfl⟩
      have HB3 : Hid (Below W2.heap.size W2 w3) := Lib.hid (by rw [← hw3]; exact Below.refl _ _)
      rw [hw3]
      clear hw3
      have hR3 := HR.out.1.grow HB3.out
      obtain ⟨ie, EE⟩ := elE
      obtain ⟨m, hm⟩ : ∃ m, p2.length = m := ⟨_, rfl⟩
      have hm1 : m ≤ 2000 := by have := HX.out.2; have := HSR.out.2.1; omega
      have hrow := hR3.cl.row
      have hbox := hR3.box
      rw [hm] at hrow hbox
      have b0 := hbox.at' 0 _ rfl
      have elt : b < w3.heap.size := Nat.lt_of_lt_of_le HEW.out.2.2 HB3.out.size
      have q0 : w3.cell? ⟨b, 0, none⟩ = some (.slice x.a x.e.key.length x.c) := by rw [HB3.out.cell (p := ⟨b, 0, none⟩) HEW.out.2.2]; exact HEW.out.1
      have q1 : w3.cell? ⟨b, 1, none⟩ = some (.int .i64 x.e.id) := by rw [HB3.out.cell (p := ⟨b, 1, none⟩) HEW.out.2.2]; exact HEW.out.2.1
      have HS0 : Hid (w3.drew.cell? ⟨k0 + 1, 0, none⟩ = some (.slice a1 m c1) ∧ w3.drew.cell? ⟨b, 0, none⟩ = some (.slice x.a x.e.key.length x.c) ∧ w3.drew.cell? ⟨b, 1, none⟩ = some (.int .i64 x.e.id)) := Lib.hid ⟨b0, q0, q1⟩
      have HGB : Hid (k0 + 1 < w3.heap.size ∧ b < w3.heap.size) := Lib.hid ⟨hbox.lt, elt⟩
      have HROW := Lib.hid hrow
      have HBX := Lib.hid hbox
      have HNE : Hid (∀ k q, SlF 2 a1 c1 k q → k ≠ k0 + 1 ∧ k ≠ b) := Lib.hid (fun k q hq => ⟨(hR3.cl.new k q hq).2.1, fun e => HNB.out q (by rw [← e]; exact hq)⟩)
      have HEC := Lib.hid (fun W (hb : Below w3.heap.size w3 W) => eclone_is x.a x.c x.e.key.length x.e.key x.e.id rfl HX.out.1.2.2 W (HX.out.1.1.sl.below (below_tr HB3.out hb)))
      have HM := Lib.hid hm
      have HR3 := Lib.hid hR3
      clear hR3 hrow hbox b0 q0 q1 elt hm
      refine RX.wpIn_region_lastH (r := some l2) 5 (fun W => W.cell? ⟨k0 + 1, 0, none⟩ = some (.slice a1 m c1) ∧ W.cell? ⟨b, 0, none⟩ = some (.slice x.a x.e.key.length x.c) ∧ W.cell? ⟨b, 1, none⟩ = some (.int .i64 x.e.id)) mixed (by kernel_rfl) (by kernel_rfl) (fun hlo => ?_) ?_
      · obtain ⟨aa, ww, hh⟩ := hlo
        rcases hh with ⟨hh, _⟩ | ⟨hh, _⟩ <;> cases hh
      simp only [List.take_succ_cons, List.take_zero, List.drop_succ_cons, List.drop_zero]
      refine wpAnyH_take (i := 0) (oi := _) (v := .slice a1 m c1) rfl (by kernel_rfl) (by kernel_rfl) (by kernel_rfl) (fun _ _ _ h => h) (Or.inl ⟨by rfl, fun w' hw' => ?_⟩) (HS0.out) ?_
      · obtain ⟨j0, j1, j2⟩ := hw'
        go_simp
        try first | with_reducible rfl | simp
      refine wpAnyH_take (i := 1) (oi := _) (v := .agg #[.slice x.a x.e.key.length x.c, .int .i64 x.e.id]) rfl (by kernel_rfl) (by kernel_rfl) (by kernel_rfl) (fun _ _ _ h => h) (Or.inl ⟨by rfl, fun w' hw' => ?_⟩) (HS0.out) ?_
      · obtain ⟨j0, j1, j2⟩ := hw'
        go_simp
        try first | with_reducible rfl | simp
      refine RX.anyH_call (i := 2) (f := 35) (args := #[.agg #[.slice x.a x.e.key.length x.c, .int .i64 x.e.id]]) (by kernel_rfl) rfl (by rfl) (by go_simp) ?_
      refine (show Calls Try.prog _ _ _ _ from HEC.out _ (below_drw w3)).mono ?_
      rintro e w4 ⟨a3, c3, rfl, hy0, hb4⟩
      have HY0 := Lib.hid hy0
      have HB4 : Hid (Below w3.heap.size w3 w4) := Lib.hid (below_tr (below_drw w3) hb4)
      obtain ⟨y, hy⟩ : ∃ y : CE, y = ⟨a3, c3, x.e⟩ := ⟨_, rfl⟩
      obtain rfl : a3 = y.a := by rw [hy]
      obtain rfl : c3 = y.c := by rw [hy]
      have HYE : Hid (y.e = x.e) := Lib.hid (by rw [hy])
      clear hy
      have HS4 : Hid (w4.cell? ⟨k0 + 1, 0, none⟩ = some (.slice a1 m c1) ∧ w4.cell? ⟨b, 0, none⟩ = some (.slice x.a x.e.key.length x.c) ∧ w4.cell? ⟨b, 1, none⟩ = some (.int .i64 x.e.id)) := Lib.hid (by
        obtain ⟨q0, q1, q2⟩ := HS0.out
        exact ⟨by rw [hb4.cell (p := ⟨k0 + 1, 0, none⟩) HGB.out.1]; exact q0, by rw [hb4.cell (p := ⟨b, 0, none⟩) HGB.out.2]; exact q1, by rw [hb4.cell (p := ⟨b, 1, none⟩) HGB.out.2]; exact q2⟩)
      have hal := Below.allocs w4 (.cells #[.slice y.a x.e.key.length y.c, .int .i64 x.e.id] 37)
      have HS5 : Hid ((w4.alloc (.cells #[.slice y.a x.e.key.length y.c, .int .i64 x.e.id] 37)).cell? ⟨k0 + 1, 0, none⟩ = some (.slice a1 m c1) ∧ (w4.alloc (.cells #[.slice y.a x.e.key.length y.c, .int .i64 x.e.id] 37)).cell? ⟨b, 0, none⟩ = some (.slice x.a x.e.key.length x.c) ∧ (w4.alloc (.cells #[.slice y.a x.e.key.length y.c, .int .i64 x.e.id] 37)).cell? ⟨b, 1, none⟩ = some (.int .i64 x.e.id)) := Lib.hid (by
        obtain ⟨q0, q1, q2⟩ := HS4.out
        have l1 := Nat.lt_of_lt_of_le HGB.out.1 HB4.out.size
        have l2 := Nat.lt_of_lt_of_le HGB.out.2 HB4.out.size
        exact ⟨by rw [hal.cell (p := ⟨k0 + 1, 0, none⟩) l1]; exact q0, by rw [hal.cell (p := ⟨b, 0, none⟩) l2]; exact q1, by rw [hal.cell (p := ⟨b, 1, none⟩) l2]; exact q2⟩)
      have lv := Lit.entry w4 y.a x.e.key.length y.c x.e.id
      have hsrc : Src Try.prog 2 33 (.slice (some ⟨w4.heap.size, 0, none⟩) 1 1) 1 [.slice y.a x.e.key.length y.c, .int .i64 x.e.id] (w4.alloc (.cells #[.slice y.a x.e.key.length y.c, .int .i64 x.e.id] 37)) := Src.ofSlice _ EE.ut ⟨w4.heap.size, 0, none⟩ 1 1 _ (by simp) lv.at'.add lv.one
      obtain ⟨a', c', W5, hrun, har, hasub, hat⟩ := row_app EE ((HROW.out.below HB4.out).below hal) _ 1 _ hsrc (by omega)
      have HSA : Hid (W5.cell? ⟨k0 + 1, 0, none⟩ = some (.slice a1 m c1) ∧ W5.cell? ⟨b, 0, none⟩ = some (.slice x.a x.e.key.length x.c) ∧ W5.cell? ⟨b, 1, none⟩ = some (.int .i64 x.e.id)) := Lib.hid (by
        obtain ⟨q0, q1, q2⟩ := HS5.out
        have l1 := Nat.lt_of_lt_of_le HGB.out.1 (below_tr HB4.out hal).size
        have l2 := Nat.lt_of_lt_of_le HGB.out.2 (below_tr HB4.out hal).size
        exact ⟨by rw [hat.cell _ 0 l1 (fun hp => (HNE.out _ _ hp).1 rfl)]; exact q0, by rw [hat.cell b 0 l2 (fun hp => (HNE.out _ _ hp).2 rfl)]; exact q1, by rw [hat.cell b 1 l2 (fun hp => (HNE.out _ _ hp).2 rfl)]; exact q2⟩)
      clear hal lv hsrc hb4 hy0
      refine ⟨_, rfl, HS4.out, ?_⟩
      refine RX.anyH_val (i := 3) (v := .slice (some ⟨w4.heap.size, 0, none⟩) 1 1) (w' := w4.alloc (.cells #[.slice y.a x.e.key.length y.c, .int .i64 x.e.id] 37)) (by kernel_rfl) rfl (by rfl) (by go_simp) (HS5.out) ?_
      refine RX.anyH_app (i := 4) (v := .slice a1 m c1) (u := .slice (some ⟨w4.heap.size, 0, none⟩) 1 1) (.tmp 27) (.tmp 30) (33) (33) (by kernel_rfl) rfl (by rfl) rfl (by go_simp) (by go_simp) (hrun _) (HSA.out) ?_
      refine wpAnyH_done (by kernel_rfl) ?_ _
      unfold RX.lastQ
      have hb4 := HB4.out
      have hal := Below.allocs w4 (.cells #[.slice y.a x.e.key.length y.c, .int .i64 x.e.id] 37)
      have hY : SlG (fun k => w3.heap.size ≤ k) w4 y.a y.c y.e.key := by rw [HYE.out]; exact HY0.out
      have hnext := HR3.out.next (x := x) (y := y) hb4 hal hY HYE.out HX.out.1.2 (by rw [HM.out]; rw [show y.cs = [.slice y.a x.e.key.length y.c, .int .i64 x.e.id] by unfold CE.cs; rw [HYE.out]]; exact har) hasub hat
      rw [HM.out] at hnext
      have HNX : Hid (WalkI w (k0 + 1) (upTo hi) A3 (p2 ++ [x]) (W5.setCell ⟨k0 + 1, 0, none⟩ (.slice a' (m + 1) c')) ∧ Stay A3 W2 (W5.setCell ⟨k0 + 1, 0, none⟩ (.slice a' (m + 1) c'))) := Lib.hid ⟨⟨⟨a', c', _, _, hnext.1.anti HSUB4.out⟩, fun z hz => by
        rcases List.mem_append.1 hz with hz | hz
        · exact HR.out.2 z hz
        · obtain rfl : z = x := by simpa using hz
          exact HUP.out⟩, (Stay.of_below HB3.out).trans (hnext.2.mono HSUB4.out)⟩
      obtain ⟨d0, _, _⟩ := HSA.out
      have b5 := (HBX.out.below (below_tr hb4 hal)).touch hat (fun q hq => (HNE.out _ q hq).1 rfl)
      have d1 := b5.fz 0
      have dlt := b5.lt
      clear hb4 hal hY hnext hrun har hasub hat b5
      go_wp2_with fail
      exact HNX.out
    · have hn0z : (0 : Int) < (n2 : Int) := by omega
      have hne : hi.isEmpty = false := by
        cases hi with
        | nil => exact absurd HN.out.2.symm hn0
        | cons v l => rfl
      have HNEH := Lib.hid hne
      clear hne
      gi_wp2_with fail
      refine ⟨trivial, rfl, CallsIn.mono (RX.callsIn_at (r := some l2) HCON.out) ?_⟩
      rintro e w3 ⟨rfl, hb3⟩
      have HB3 := Lib.hid hb3
      clear hb3 HCON e0 e1 e2 blt klt
      by_cases hz : 0 ≤ rc
      · gi_wp2_with fail
        exact ⟨⟨p2, x, rfl, by unfold upTo; rw [HNEH.out, Bool.false_or]; unfold ltK; rw [HRC.out]; exact decide_eq_false (by omega), ⟨a1, c1, es', K', (HR.out.1.grow HB3.out).anti HSUB4.out⟩, HR.out.2⟩, Stay.of_below HB3.out⟩
      · have hup : upTo hi x = true := by unfold upTo; rw [HNEH.out, Bool.false_or]; unfold ltK; rw [HRC.out]; exact decide_eq_true (by omega)
        have HUP := Lib.hid hup
        clear hup
        gi_wp2_with fail
        have hR3 := HR.out.1.grow HB3.out
        obtain ⟨ie, EE⟩ := elE
        obtain ⟨m, hm⟩ : ∃ m, p2.length = m := ⟨_, rfl⟩
        have hm1 : m ≤ 2000 := by have := HX.out.2; have := HSR.out.2.1; omega
        have hrow := hR3.cl.row
        have hbox := hR3.box
        rw [hm] at hrow hbox
        have b0 := hbox.at' 0 _ rfl
        have elt : b < w3.heap.size := Nat.lt_of_lt_of_le HEW.out.2.2 HB3.out.size
        have q0 : w3.cell? ⟨b, 0, none⟩ = some (.slice x.a x.e.key.length x.c) := by rw [HB3.out.cell (p := ⟨b, 0, none⟩) HEW.out.2.2]; exact HEW.out.1
        have q1 : w3.cell? ⟨b, 1, none⟩ = some (.int .i64 x.e.id) := by rw [HB3.out.cell (p := ⟨b, 1, none⟩) HEW.out.2.2]; exact HEW.out.2.1
        have HS0 : Hid (w3.drew.cell? ⟨k0 + 1, 0, none⟩ = some (.slice a1 m c1) ∧ w3.drew.cell? ⟨b, 0, none⟩ = some (.slice x.a x.e.key.length x.c) ∧ w3.drew.cell? ⟨b, 1, none⟩ = some (.int .i64 x.e.id)) := Lib.hid ⟨b0, q0, q1⟩
        have HGB : Hid (k0 + 1 < w3.heap.size ∧ b < w3.heap.size) := Lib.hid ⟨hbox.lt, elt⟩
        have HROW := Lib.hid hrow
        have HBX := Lib.hid hbox
        have HNE : Hid (∀ k q, SlF 2 a1 c1 k q → k ≠ k0 + 1 ∧ k ≠ b) := Lib.hid (fun k q hq => ⟨(hR3.cl.new k q hq).2.1, fun e => HNB.out q (by rw [← e]; exact hq)⟩)
        have HEC := Lib.hid (fun W (hb : Below w3.heap.size w3 W) => eclone_is x.a x.c x.e.key.length x.e.key x.e.id rfl HX.out.1.2.2 W (HX.out.1.1.sl.below (below_tr HB3.out hb)))
        have HM := Lib.hid hm
        have HR3 := Lib.hid hR3
        clear hR3 hrow hbox b0 q0 q1 elt hm
        refine RX.wpIn_region_lastH (r := some l2) 5 (fun W => W.cell? ⟨k0 + 1, 0, none⟩ = some (.slice a1 m c1) ∧ W.cell? ⟨b, 0, none⟩ = some (.slice x.a x.e.key.length x.c) ∧ W.cell? ⟨b, 1, none⟩ = some (.int .i64 x.e.id)) mixed (by kernel_rfl) (by kernel_rfl) (fun hlo => ?_) ?_
        · obtain ⟨aa, ww, hh⟩ := hlo
          rcases hh with ⟨hh, _⟩ | ⟨hh, _⟩ <;> cases hh
        simp only [List.take_succ_cons, List.take_zero, List.drop_succ_cons, List.drop_zero]
        refine wpAnyH_take (i := 0) (oi := _) (v := .slice a1 m c1) rfl (by kernel_rfl) (by kernel_rfl) (by kernel_rfl) (fun _ _ _ h => h) (Or.inl ⟨by rfl, fun w' hw' => ?_⟩) (HS0.out) ?_
        · obtain ⟨j0, j1, j2⟩ := hw'
          go_simp
          try first | with_reducible rfl | simp
        refine wpAnyH_take (i := 1) (oi := _) (v := .agg #[.slice x.a x.e.key.length x.c, .int .i64 x.e.id]) rfl (by kernel_rfl) (by kernel_rfl) (by kernel_rfl) (fun _ _ _ h => h) (Or.inl ⟨by rfl, fun w' hw' => ?_⟩) (HS0.out) ?_
        · obtain ⟨j0, j1, j2⟩ := hw'
          go_simp
          try first | with_reducible rfl | simp
        refine RX.anyH_call (i := 2) (f := 35) (args := #[.agg #[.slice x.a x.e.key.length x.c, .int .i64 x.e.id]]) (by kernel_rfl) rfl (by rfl) (by go_simp) ?_
        refine (show Calls Try.prog _ _ _ _ from HEC.out _ (below_drw w3)).mono ?_
        rintro e w4 ⟨a3, c3, rfl, hy0, hb4⟩
        have HY0 := Lib.hid hy0
        have HB4 : Hid (Below w3.heap.size w3 w4) := Lib.hid (below_tr (below_drw w3) hb4)
        obtain ⟨y, hy⟩ : ∃ y : CE, y = ⟨a3, c3, x.e⟩ := ⟨_, rfl⟩
        obtain rfl : a3 = y.a := by rw [hy]
        obtain rfl : c3 = y.c := by rw [hy]
        have HYE : Hid (y.e = x.e) := Lib.hid (by rw [hy])
        clear hy
        have HS4 : Hid (w4.cell? ⟨k0 + 1, 0, none⟩ = some (.slice a1 m c1) ∧ w4.cell? ⟨b, 0, none⟩ = some (.slice x.a x.e.key.length x.c) ∧ w4.cell? ⟨b, 1, none⟩ = some (.int .i64 x.e.id)) := Lib.hid (by
          obtain ⟨q0, q1, q2⟩ := HS0.out
          exact ⟨by rw [hb4.cell (p := ⟨k0 + 1, 0, none⟩) HGB.out.1]; exact q0, by rw [hb4.cell (p := ⟨b, 0, none⟩) HGB.out.2]; exact q1, by rw [hb4.cell (p := ⟨b, 1, none⟩) HGB.out.2]; exact q2⟩)
        have hal := Below.allocs w4 (.cells #[.slice y.a x.e.key.length y.c, .int .i64 x.e.id] 37)
        have HS5 : Hid ((w4.alloc (.cells #[.slice y.a x.e.key.length y.c, .int .i64 x.e.id] 37)).cell? ⟨k0 + 1, 0, none⟩ = some (.slice a1 m c1) ∧ (w4.alloc (.cells #[.slice y.a x.e.key.length y.c, .int .i64 x.e.id] 37)).cell? ⟨b, 0, none⟩ = some (.slice x.a x.e.key.length x.c) ∧ (w4.alloc (.cells #[.slice y.a x.e.key.length y.c, .int .i64 x.e.id] 37)).cell? ⟨b, 1, none⟩ = some (.int .i64 x.e.id)) := Lib.hid (by
          obtain ⟨q0, q1, q2⟩ := HS4.out
          have l1 := Nat.lt_of_lt_of_le HGB.out.1 HB4.out.size
          have l2 := Nat.lt_of_lt_of_le HGB.out.2 HB4.out.size
          exact ⟨by rw [hal.cell (p := ⟨k0 + 1, 0, none⟩) l1]; exact q0, by rw [hal.cell (p := ⟨b, 0, none⟩) l2]; exact q1, by rw [hal.cell (p := ⟨b, 1, none⟩) l2]; exact q2⟩)
        have lv := Lit.entry w4 y.a x.e.key.length y.c x.e.id
        have hsrc : Src Try.prog 2 33 (.slice (some ⟨w4.heap.size, 0, none⟩) 1 1) 1 [.slice y.a x.e.key.length y.c, .int .i64 x.e.id] (w4.alloc (.cells #[.slice y.a x.e.key.length y.c, .int .i64 x.e.id] 37)) := Src.ofSlice _ EE.ut ⟨w4.heap.size, 0, none⟩ 1 1 _ (by simp) lv.at'.add lv.one
        obtain ⟨a', c', W5, hrun, har, hasub, hat⟩ := row_app EE ((HROW.out.below HB4.out).below hal) _ 1 _ hsrc (by omega)
        have HSA : Hid (W5.cell? ⟨k0 + 1, 0, none⟩ = some (.slice a1 m c1) ∧ W5.cell? ⟨b, 0, none⟩ = some (.slice x.a x.e.key.length x.c) ∧ W5.cell? ⟨b, 1, none⟩ = some (.int .i64 x.e.id)) := Lib.hid (by
          obtain ⟨q0, q1, q2⟩ := HS5.out
          have l1 := Nat.lt_of_lt_of_le HGB.out.1 (below_tr HB4.out hal).size
          have l2 := Nat.lt_of_lt_of_le HGB.out.2 (below_tr HB4.out hal).size
          exact ⟨by rw [hat.cell _ 0 l1 (fun hp => (HNE.out _ _ hp).1 rfl)]; exact q0, by rw [hat.cell b 0 l2 (fun hp => (HNE.out _ _ hp).2 rfl)]; exact q1, by rw [hat.cell b 1 l2 (fun hp => (HNE.out _ _ hp).2 rfl)]; exact q2⟩)
        clear hal lv hsrc hb4 hy0
        refine ⟨_, rfl, HS4.out, ?_⟩
        refine RX.anyH_val (i := 3) (v := .slice (some ⟨w4.heap.size, 0, none⟩) 1 1) (w' := w4.alloc (.cells #[.slice y.a x.e.key.length y.c, .int .i64 x.e.id] 37)) (by kernel_rfl) rfl (by rfl) (by go_simp) (HS5.out) ?_
        refine RX.anyH_app (i := 4) (v := .slice a1 m c1) (u := .slice (some ⟨w4.heap.size, 0, none⟩) 1 1) (.tmp 27) (.tmp 30) (33) (33) (by kernel_rfl) rfl (by rfl) rfl (by go_simp) (by go_simp) (hrun _) (HSA.out) ?_
        refine wpAnyH_done (by kernel_rfl) ?_ _
        unfold RX.lastQ
        have hb4 := HB4.out
        have hal := Below.allocs w4 (.cells #[.slice y.a x.e.key.length y.c, .int .i64 x.e.id] 37)
        have hY : SlG (fun k => w3.heap.size ≤ k) w4 y.a y.c y.e.key := by rw [HYE.out]; exact HY0.out
        have hnext := HR3.out.next (x := x) (y := y) hb4 hal hY HYE.out HX.out.1.2 (by rw [HM.out]; rw [show y.cs = [.slice y.a x.e.key.length y.c, .int .i64 x.e.id] by unfold CE.cs; rw [HYE.out]]; exact har) hasub hat
        rw [HM.out] at hnext
        have HNX : Hid (WalkI w (k0 + 1) (upTo hi) A3 (p2 ++ [x]) (W5.setCell ⟨k0 + 1, 0, none⟩ (.slice a' (m + 1) c')) ∧ Stay A3 W2 (W5.setCell ⟨k0 + 1, 0, none⟩ (.slice a' (m + 1) c'))) := Lib.hid ⟨⟨⟨a', c', _, _, hnext.1.anti HSUB4.out⟩, fun z hz => by
          rcases List.mem_append.1 hz with hz | hz
          · exact HR.out.2 z hz
          · obtain rfl : z = x := by simpa using hz
            exact HUP.out⟩, (Stay.of_below HB3.out).trans (hnext.2.mono HSUB4.out)⟩
        obtain ⟨d0, _, _⟩ := HSA.out
        have b5 := (HBX.out.below (below_tr hb4 hal)).touch hat (fun q hq => (HNE.out _ q hq).1 rfl)
        have d1 := b5.fz 0
        have dlt := b5.lt
        clear hb4 hal hY hnext hrun har hasub hat b5
        go_wp2_with fail
        exact HNX.out
  case call =>
    intro l2 nn J2 Jx2 A3 W3 hpar hJ3 hnn hA3 hst3
    have hb := HB.out
    have h0 : ∀ k, k < w.heap.size → A3 k := fun k hk => hA3 k ⟨by have := HSZ.out; omega, by have := HK0.out; omega⟩
    have hsw : Stay (fun k => k < w.heap.size) w W3 := (Stay.of_below BV3.out).trans (hst3.mono fun k hk => ⟨Nat.lt_of_lt_of_le hk HSZ.out, Nat.ne_of_lt (by have := HK0.out; omega)⟩)
    have q0 : B < v3.heap.size ∧ B ≠ k0 + 1 := ⟨by omega, by omega⟩
    have q1 : B + 1 < v3.heap.size ∧ B + 1 ≠ k0 + 1 := ⟨by omega, by omega⟩
    refine HC.out (fun _ => True) (fun l => l.length ≤ S.length) l2 nn A3 J2 Jx2 [] B (B + 1) a c n W3 (hsw.mono HT.out.lt) hpar (fun _ _ => trivial) hJ3 hnn (fun k hk => h0 k (HT.out.lt k hk)) (hA3 _ q0) (hA3 _ q1) ?_ ?_ HN.out.1 ((HK.out.1.all.stay hsw).mono fun k _ hk => h0 k hk) (fun q hq => by simpa using hq.length_le)
    · rw [hst3.cell q0.1 q0]; exact hb.2.1
    · rw [hst3.cell q1.1 q1]; exact hb.2.2
  case done =>
    intro D A2 W2 hI hA hst hD hDn hDb
    obtain ⟨m, hm0⟩ : ∃ m, [] ++ S = m := ⟨_, rfl⟩
    rw [hm0] at hI
    obtain ⟨⟨a1, c1, es', K', hR⟩, hall⟩ := hI
    have hm : S.filter (upTo hi) = m := by
      rw [← hm0, List.nil_append]
      exact List.filter_eq_self.2 fun y hy => hall y (by rw [← hm0]; exact hy)
    clear hm0
    have HM := Lib.hid (walk_end hR HSR.out.1 hm)
    have HR := Lib.hid hR
    have HMK : Hid (Marks A2 v3.heap.size W2 [{ target := .collected D, args := #[] }] [D]) := Lib.hid ((Marks.nil _ _ _).cons hD hDn hDb (by simp))
    obtain ⟨mm, hmm⟩ : ∃ mm, m.length = mm := ⟨_, rfl⟩
    have hbox := hR.box
    rw [hmm] at hbox
    have d0 := hbox.at' 0 _ rfl
    have dlt := hbox.lt
    have HMM := Lib.hid hmm
    clear hA hst hD hDn hDb hR hm hmm hbox hall
    try gi_wp2_with fail
    go_wp2_with fail
    refine HMK.out.leaves fun W' htt hss => ⟨.slice a1 mm c1, by simp [results, Try.results16, go_sem], ?_⟩
    have hR' := HR.out.own HSZ.out htt (fun k => ⟨.inl, fun hx => hx.elim id (fun hx => by omega)⟩)
    obtain ⟨h1, h2, _⟩ := walk_end hR' HSR.out.1 HM.out.2.2
    exact ⟨a1, c1, by rw [← HMM.out, h2], h1, hR'.bel⟩
  case stop =>
    intro D A2 W2 q2 hq hI hA hst hD hDn hDb
    obtain ⟨m, x, he, hx, ⟨a1, c1, es', K', hR⟩, hall⟩ := hI
    have hm : S.filter (upTo hi) = m := filter_stop HSR.out.2.2 (by rw [← he]; exact hq) hall hx
    clear he hx hq
    have HM := Lib.hid (walk_end hR HSR.out.1 hm)
    have HR := Lib.hid hR
    have HMK : Hid (Marks A2 v3.heap.size W2 [{ target := .collected D, args := #[] }] [D]) := Lib.hid ((Marks.nil _ _ _).cons hD hDn hDb (by simp))
    obtain ⟨mm, hmm⟩ : ∃ mm, m.length = mm := ⟨_, rfl⟩
    have hbox := hR.box
    rw [hmm] at hbox
    have d0 := hbox.at' 0 _ rfl
    have dlt := hbox.lt
    have HMM := Lib.hid hmm
    clear hA hst hD hDn hDb hR hm hmm hbox hall
    try gi_wp2_with fail
    go_wp2_with fail
    refine HMK.out.leaves fun W' htt hss => ⟨.slice a1 mm c1, by simp [results, Try.results16, go_sem], ?_⟩
    have hR' := HR.out.own HSZ.out htt (fun k => ⟨.inl, fun hx => hx.elim id (fun hx => by omega)⟩)
    obtain ⟨h1, h2, _⟩ := walk_end hR' HSR.out.1 HM.out.2.2
    exact ⟨a1, c1, by rw [← HMM.out, h2], h1, hR'.bel⟩
end
end Go.Proofs.Ytfikaccgpjiedaa

