/-
  nodes: its iterator, walked: by induction on the height.
-/
import Derived.Test.YtfikaccgpjiedaaJJ28
import Derived.Test.YtfikaccgpjiedaaJJ29
namespace Go.Proofs.Ytfikaccgpjiedaa
open Go.RowKit Go.Lib

/-- What nodes hands over: how deep, which node, of how many entries and children. -/
structure DN where
  d : Int
  g : Nat
  m : Nat
  k : Nat

def encN (x : DN) : Array Value := #[.int .i64 x.d, .pointer (some ⟨x.g, 0, none⟩)]

/-- What is said of it. -/
def TN (G : DN → Prop) (A : Nat → Prop) (W : World) (x : DN) : Prop :=
  A x.g ∧ (∃ ea ec ca cc, W.cell? ⟨x.g, 0, none⟩ = some (.slice ea x.m ec) ∧ W.cell? ⟨x.g, 1, none⟩ = some (.slice ca x.k cc)) ∧ (∀ j, W.frozen? ⟨x.g, j, none⟩ = false) ∧ G x

theorem tellsN (G : DN → Prop) : Tells (TN G) :=
  ⟨fun ⟨h1, h2⟩ hA => ⟨hA _ h1, h2⟩, fun {A W W' x} ⟨h1, ⟨ea, ec, ca, cc, h2, h3⟩, h4, h5⟩ hs => by
    have hl := World.block_lt_of_cell? _ _ h2
    exact ⟨h1, ⟨ea, ec, ca, cc, by rw [hs.cell hl h1]; exact h2, by rw [hs.cell hl h1]; exact h3⟩, fun j => by rw [hs.frozen hl h1]; exact h4 j, h5⟩⟩

/-- A node, and all below it. -/
def allN : (h : Nat) → Kid h → Int → List DN
  | 0, _, _ => []
  | h + 1, n, d => ⟨d, Nd.g (κ := Kid h) n, (Nd.es (κ := Kid h) n).length, (Nd.ks (κ := Kid h) n).length⟩ :: (Nd.ks (κ := Kid h) n).flatMap fun c => allN h c (d + 1)

theorem allN_foot : ∀ {h : Nat} {n : Kid h} {d : Int} {x : DN}, x ∈ allN h n d → foot h n x.g 0
  | h + 1, n, d, x, hx => by
      rcases List.mem_cons.1 hx with rfl | hx
      · exact .inl (.inl ⟨rfl, by omega⟩)
      · obtain ⟨c, hc, hx⟩ := List.mem_flatMap.1 hx
        exact .inr ⟨c, hc, allN_foot hx⟩

/-- What has been handed over ahead of child i. -/
def preN (h : Nat) (n : Nd (Kid h)) (d : Int) (i : Nat) : List DN := ⟨d, n.g, n.es.length, n.ks.length⟩ :: (n.ks.take i).flatMap fun c => allN h c (d + 1)

theorem preN_all (h : Nat) (n : Nd (Kid h)) (d : Int) {i : Nat} (hi : n.ks.length ≤ i) : preN h n d i = allN (h + 1) n d := by
  unfold preN
  rw [List.take_of_length_le hi]
  rfl
theorem preN_next (h : Nat) (n : Nd (Kid h)) (d : Int) {i : Nat} {c : Kid h} (hc : n.ks[i]? = some c) : preN h n d (i + 1) = preN h n d i ++ allN h c (d + 1) := by
  unfold preN
  rw [List.take_add_one, hc]
  simp
theorem preN_pre (h : Nat) (n : Nd (Kid h)) (d : Int) (i : Nat) : preN h n d i <+: allN (h + 1) n d := by
  refine ⟨(n.ks.drop i).flatMap fun c => allN h c (d + 1), ?_⟩
  unfold preN
  rw [List.cons_append, ← List.flatMap_append, List.take_append_drop]
  rfl
theorem preN_kid (h : Nat) (n : Nd (Kid h)) (d : Int) {i : Nat} {c : Kid h} (hc : n.ks[i]? = some c) {q : List DN} (hq : q <+: allN h c (d + 1)) : preN h n d i ++ q <+: allN (h + 1) n d := by
  obtain ⟨r, hr⟩ := hq
  obtain ⟨s, hs⟩ := preN_pre h n d (i + 1)
  rw [preN_next h n d hc, ← hr] at hs
  exact ⟨r ++ s, by rw [← hs]; simp⟩

theorem Tree.kid0 : ∀ {h : Nat} {lo hi : Nat} {W : World} {K : Nat → Prop} {n : Nd (Kid h)} (_ : Tree (h + 1) lo hi W K n) {c : Kid h} {i : Nat} (_ : n.ks[i]? = some c), Tree h 3 7 W K c
  | 0, _, _, _, _, _, _, c, _, _ => Empty.elim c
  | _ + 1, _, _, _, _, _, t, _, _, hc => t.kid hc
theorem nodes_enters : ∀ args w, (callFunc 60 args).run Try.prog w = .ok (.enter 60 args) w := enters_of Try.func60 (by kernel_rfl) rfl
theorem encN_size (x : DN) : (encN x).size = (#[30, 31] : Array Tmp).size := rfl

def NodesC (h : Nat) : Prop := ∀ (G : DN → Prop) (Ok : List DN → Prop) (n : Kid h) (lo hi l n0 : Nat) (K A : Nat → Prop) (J Jx : (Nat → Prop) → List DN → World → Prop) (p : List DN) (Bn Bd : Nat) (d : Int) (W : World), hi ≤ 7 → Party Try.prog encN (TN G) Ok l n0 J Jx → J A p W → n0 ≤ W.heap.size → Tree h lo hi W K n → (∀ x ∈ allN h n d, G x) →
  (∀ k p, foot h n k p → A k) → (∀ k, K k → A k) → A Bn → A Bd → W.cell? ⟨Bn, 0, none⟩ = some (.pointer (some ⟨kg h n, 0, none⟩)) → W.cell? ⟨Bd, 0, none⟩ = some (.int .i64 d) → 0 ≤ d → d + h ≤ 1000 → (∀ q, q <+: allN h n d → Ok (p ++ q)) →
  CallsIn .wide 1 Try.prog 60 #[.func (.yield l) #[] #[], .pointer (some ⟨Bn, 0, none⟩), .pointer (some ⟨Bd, 0, none⟩)] W fun e W' => (∃ v, e = .returned v) ∧ ∃ A' : Nat → Prop, (∀ k, A k → A' k) ∧ (J A' (p ++ allN h n d) W' ∨ ∃ q, q <+: allN h n d ∧ Jx A' (p ++ q) W')

/-- nodes hands back its closure. -/
theorem nodes_is (q : Option Addr) (d : Int) (w : World) :
    Calls Try.prog 46 #[.pointer q, .int .i64 d] w fun e w' => ∃ B1 B2, e = .returned (.func (.func 60) #[] #[.pointer (some ⟨B1, 0, none⟩), .pointer (some ⟨B2, 0, none⟩)]) ∧
      Below w.heap.size w w' ∧ w.heap.size ≤ B1 ∧ w.heap.size ≤ B2 ∧ w'.cell? ⟨B1, 0, none⟩ = some (.pointer q) ∧ w'.cell? ⟨B2, 0, none⟩ = some (.int .i64 d) := by
  have b1 := Below.allocs w (.cells #[.pointer q] 51)
  have b2 := Below.allocs (w.alloc (.cells #[.pointer q] 51)) (.cells #[.int .i64 d] 3)
  have l1 := Lit.new w [.pointer q] 51 (by intro v hv; simp at hv; subst hv; rfl)
  have l2 := Lit.new (w.alloc (.cells #[.pointer q] 51)) [.int .i64 d] 3 (by intro v hv; simp at hv; subst hv; rfl)
  rw [World.size_alloc] at l2
  have HH := Lib.hid (And.intro (below_tr b1 b2) (And.intro ((l1.below b2).at' 0 _ rfl) (l2.at' 0 _ rfl)))
  clear b1 b2 l1 l2
  go_enter Try.func46, Try.ntmps46
  go_wp2
  go_ret
  exact ⟨_, _, rfl, HH.out.1, by simp, by simp, HH.out.2.1, HH.out.2.2⟩

section
attribute [local go_sem] Oper.semAt_some
set_option maxRecDepth 100000 in
set_option maxHeartbeats 4000000 in
theorem nodes_step (h : Nat) (ih : NodesC h) : NodesC (h + 1) := by
  intro G Ok n lo hi l n0 K A J Jx p Bn Bd d W hhi hp hJ hn0 t hG hft hK hBn hBd hcn hcd hd0 hd1 hlen
  change Nd (Kid h) at n
  change W.cell? ⟨Bn, 0, none⟩ = some (.pointer (some ⟨n.g, 0, none⟩)) at hcn
  obtain ⟨M, hM⟩ : ∃ M, n.es.length = M := ⟨_, rfl⟩
  obtain ⟨NK, hN⟩ : ∃ NK, n.ks.length = NK := ⟨_, rfl⟩
  have hN8 : NK ≤ 8 := by
    have h1 := kid_klen t.wf
    have h2 : n.es.length ≤ 7 := Nat.le_trans t.wf.2.1 hhi
    omega
  have hbw := Below.allocs W (.cells #[.func (.yield l) #[] #[]] 88)
  have hbx := Lit.new W [.func (.yield l) #[] #[]] 88 (by intro v hv; simp at hv; subst hv; rfl)
  rw [show ([Value.func (.yield l) #[] #[]] : List Value).toArray = (#[.func (.yield l) #[] #[]] : Array Value) from rfl] at hbx
  obtain ⟨V, hV⟩ : ∃ V, W.alloc (.cells #[.func (.yield l) #[] #[]] 88) = V := ⟨_, rfl⟩
  obtain ⟨Y, hY⟩ : ∃ Y, W.heap.size = Y := ⟨_, rfl⟩
  rw [hV] at hbw hbx
  rw [hY] at hbx
  have hAlt := hp.j.lt hJ
  have blt := hAlt Bn hBn
  have dlt := hAlt Bd hBd
  obtain ⟨A1, hA1⟩ : ∃ A1 : Nat → Prop, (fun k => A k ∨ (W.heap.size ≤ k ∧ k < V.heap.size)) = A1 := ⟨_, rfl⟩
  have hJ1 : J A1 p V := by rw [← hA1]; exact hp.j.below hJ hbw
  have hsub : ∀ k, A k → A1 k := fun k hk => by rw [← hA1]; exact .inl hk
  have hAY : A1 Y := by rw [← hA1, ← hY]; exact .inr ⟨Nat.le_refl _, by rw [hY]; exact hbx.lt⟩
  have hst : ∀ w, Stay A1 V w → Stay A W w := fun w hs => (Stay.of_below hbw).trans (hs.mono hsub)
  have hlt1 := hp.j.lt hJ1
  have hY1 : V.cell? ⟨Y, 0, none⟩ = some (.func (.yield l) #[] #[]) := hbx.at' 0 _ rfl
  have hrd : ∀ w, Stay A1 V w → w.cell? ⟨Bn, 0, none⟩ = some (.pointer (some ⟨n.g, 0, none⟩)) ∧ w.cell? ⟨Bd, 0, none⟩ = some (.int .i64 d) ∧ w.cell? ⟨Y, 0, none⟩ = some (.func (.yield l) #[] #[]) ∧ w.cell? ⟨n.g, 0, none⟩ = some (.slice n.ea M n.ec) ∧ w.cell? ⟨n.g, 1, none⟩ = some (.slice n.ca NK n.cc) ∧ Tree (h + 1) lo hi w K n := fun w hs => by
    have hsw := hst w hs
    have t' := t.stay hsw hft hK
    have s := t'.inn.self
    have a0 := s.g0
    have a1 := s.g1
    rw [hM] at a0
    rw [List.length_map, hN] at a1
    exact ⟨by rw [hsw.cell blt hBn]; exact hcn, by rw [hsw.cell dlt hBd]; exact hcd, by rw [hs.cell (hlt1 Y hAY) hAY]; exact hY1, a0, a1, t'⟩
  have hng : A n.g := hft n.g 0 (.inl (.inl ⟨rfl, by omega⟩))
  have hTN : TN G A1 V ⟨d, n.g, M, NK⟩ := by
    obtain ⟨_, _, _, a0, a1, t'⟩ := hrd V (Stay.refl _ _)
    exact ⟨hsub _ hng, ⟨_, _, _, _, a0, a1⟩, t'.inn.self.fz, hG _ (by rw [← hM, ← hN]; exact List.mem_cons_self ..)⟩
  have hpre0 : preN h n d 0 = [⟨d, n.g, M, NK⟩] := by unfold preN; rw [hM, hN]; rfl
  have hp1 : Ok (p ++ [⟨d, n.g, M, NK⟩]) := by rw [← hpre0]; exact hlen _ (preN_pre h n d 0)
  obtain ⟨fn, tmps, assign, body, hy, hRR⟩ := hp.turn A1 p ⟨d, n.g, M, NK⟩ V hJ1 hTN hp1
  simp only [encN] at hy
  have HP := Lib.hid hp
  have HRD := Lib.hid hrd
  have HV := Lib.hid hV
  have HYY := Lib.hid hY
  have HM := Lib.hid (And.intro hM hN)
  have HG := Lib.hid hG
  have HF := Lib.hid (And.intro hft (And.intro hK (And.intro hlen (And.intro hn0 (And.intro hd0 hd1)))))
  have HSUB := Lib.hid hsub
  have HRR := Lib.hid hRR
  have HP0 := Lib.hid hpre0
  have HB := Lib.hid hbw.size
  have HST := Lib.hid hst
  obtain ⟨c0, c1, c2, c3, c4, _⟩ := hrd V (Stay.refl _ _)
  have ylt := hlt1 Y hAY
  have glt := World.block_lt_of_cell? _ _ c3
  have bltV := World.block_lt_of_cell? _ _ c0
  have dltV := World.block_lt_of_cell? _ _ c1
  have hcw := hcn
  have hcw1 := hcd
  clear hp hJ t hG hft hK hBn hBd hcn hcd hlen hbw hbx hV hY hAlt hJ1 hsub hAY hst hlt1 hY1 hrd hng hTN hp1 hRR hpre0 hM hN hn0
  refine callsIn_of_wp_marks Try.func60 rfl trivial ?_ rfl
  simp only [Try.ntmps60, List.size_toArray, List.length_cons, List.length_nil, Nat.reduceAdd, Nat.reduceSub, Array.replicate_succ, Array.replicate_zero, List.push_toArray, List.append_toArray, List.nil_append, List.cons_append]
  refine wpIn_wide.2 ?_
  go_upto_region 1 with (fail)
  simp only [HYY.out]
  rw [HV.out]
  clear hcw hcw1 blt dlt
  refine (wpIn_wide (n := 1)).1 ?_
  gi_wp2_with fail
  refine HRR.out.mono ?_
  rintro e w2 (⟨rfl, hJ2, hst2⟩ | ⟨rfl, hJ2, hst2⟩)
  · have HJ2 : Hid (J A1 (p ++ preN h n d 0) w2) := Lib.hid (by rw [HP0.out]; exact hJ2)
    have HS2 := Lib.hid hst2
    clear hJ2 hst2 hy c0 c1 c2 c3 c4 ylt glt bltV dltV
    obtain ⟨c0, c1, c2, c3, c4, _⟩ := HRD.out w2 HS2.out
    have blt := World.block_lt_of_cell? _ _ c0
    have glt := World.block_lt_of_cell? _ _ c3
    gi_wp2_with fail
    go_wp2_with fail
    clear c0 c1 c2 c3 c4 blt glt
    refine (wpIn_wide (n := 1)).1 ?_
    refine wpIn_loop_ghost_k (fun gg a w => ∃ (v22 v5 v23 v24 v25 v26 v27 v28 v29 v37 : Value) (ds : List Deferred), (∃ (i : Nat) (A' : Nat → Prop) (Ds : List Nat), v22 = .int .i64 (i : Int) ∧ i ≤ NK ∧ NK - i ≤ gg ∧ Hid (J A' (p ++ preN h n d i) w) ∧ Hid (∀ k, A1 k → A' k) ∧ Hid (Stay A1 V w) ∧ Hid (Marks A' n0 w ds Ds)) ∧ a = { tmps := #[.func (.yield l) #[] #[], .pointer (some ⟨Bn, 0, none⟩), .pointer (some ⟨Bd, 0, none⟩), .pointer (some ⟨Y, 0, none⟩), undef, v5, undef, undef, .pointer (some ⟨n.g, 0, none⟩), .bool false, .bool false, .func (.yield l) #[] #[], .int .i64 d, .pointer (some ⟨n.g, 0, none⟩), .bool true, .bool false, .bool false, .pointer (some ⟨n.g, 0, none⟩), .pointer (some ⟨n.g, 0, none⟩), .pointer (some ⟨n.g, 1, none⟩), .slice n.ca NK n.cc, .int .i64 (NK : Int), v22, v23, v24, v25, v26, v27, v28, v29, undef, undef, undef, undef, undef, undef, undef, v37], defers := ds }) NK ?_ ?_
    · refine ⟨_, _, _, _, _, _, _, _, _, _, _, ⟨0, A1, [], rfl, Nat.zero_le _, by omega, HJ2, Lib.hid (fun _ hk => hk), HS2, Lib.hid (Marks.nil _ _ _)⟩, rfl⟩
    intro gg _ w hinv
    obtain ⟨v22, v5, v23, v24, v25, v26, v27, v28, v29, v37, ds, ⟨i, A', Ds, rfl, hiN, hgg, HJi, HA, HS, HMK⟩, rfl⟩ := hinv
    intro _ _ _ _
    dsimp only
    by_cases hlt : i < NK
    · have hltz : (i : Int) < (NK : Int) := by omega
      have zi : ¬ NK ≤ i := by omega
      obtain ⟨c, hc⟩ : ∃ c, n.ks[i]? = some c := ⟨n.ks[i]'(by rw [HM.out.2]; exact hlt), by simp⟩
      have tk := (HRD.out w HS.out).2.2.2.2.2
      obtain ⟨cb, co, hca, k0, _, klt⟩ := kid_at tk.inn.self.cr (i := i) (g := kg h c) (by simp [hc])
      obtain ⟨c0, c1, c2, c3, c4, _⟩ := HRD.out w HS.out
      have blt := World.block_lt_of_cell? _ _ c1
      have hTK : ∀ W', Stay A1 V W' → Tree h 3 7 W' K c := fun W' hs => (HRD.out W' hs).2.2.2.2.2.kid0 hc
      have HTK := Lib.hid hTK
      have hnd := nodes_is (some ⟨kg h c, 0, none⟩) (d + 1)
      have HND := Lib.hid hnd
      have HC := Lib.hid hc
      have HCA := Lib.hid hca
      have hd0 := HF.out.2.2.2.2.1
      have hd1 := HF.out.2.2.2.2.2
      clear tk hTK hnd hc c0 c2 c3 c4
      rw [hca]
      clear hca
      refine wpIn_wide.2 ?_
      go_wp2_with fail
      refine (HND.out w).mono ?_
      rintro e w6 ⟨B1, B2, rfl, hv6, hB1s, hB2s, hB1, hB2⟩
      obtain ⟨A6, hA6⟩ : ∃ A6 : Nat → Prop, A6 = fun k => A' k ∨ (w.heap.size ≤ k ∧ k < w6.heap.size) := ⟨_, rfl⟩
      have HJ6 : Hid (J A6 (p ++ preN h n d i) w6) := Lib.hid (by rw [hA6]; exact HP.out.j.below HJi.out hv6)
      have HA6 : Hid (∀ k, A1 k → A6 k) := Lib.hid (fun k hk => by rw [hA6]; exact .inl (HA.out k hk))
      have HS6 : Hid (Stay A1 V w6) := Lib.hid (HS.out.trans (Stay.of_below hv6))
      have HMK6 : Hid (Marks A6 n0 w6 ds Ds) := Lib.hid (HMK.out.stay (fun k hk => by rw [hA6]; exact .inl hk) (Stay.of_below hv6))
      have hbl1 := World.block_lt_of_cell? _ _ hB1
      have hbl2 := World.block_lt_of_cell? _ _ hB2
      have HBB : Hid (A6 B1 ∧ A6 B2 ∧ w6.cell? ⟨B1, 0, none⟩ = some (.pointer (some ⟨kg h c, 0, none⟩)) ∧ w6.cell? ⟨B2, 0, none⟩ = some (.int .i64 (d + 1))) := Lib.hid ⟨by rw [hA6]; exact .inr ⟨hB1s, hbl1⟩, by rw [hA6]; exact .inr ⟨hB2s, hbl2⟩, hB1, hB2⟩
      have HN6 : Hid (n0 ≤ w6.heap.size) := Lib.hid (by
        have h1 := HF.out.2.2.2.1
        have h2 := HB.out
        have h3 := HS6.out.size
        omega)
      have HPK : Hid (∀ q, q <+: allN h c (d + 1) → preN h n d i ++ q <+: allN (h + 1) n d) := Lib.hid (fun q hq => preN_kid h n d HC.out hq)
      clear hA6 hv6 hB1s hB2s hB1 hB2 hbl1 hbl2 c1 blt k0 klt
      go_wp2_with fail
      refine (wpIn_wide (n := 1)).1 ?_
      refine wpIn_range (tellsN G) Ok J Jx (HP.out.j.mono HN6.out) (HP.out.x.mono HN6.out) A6 (p ++ preN h n d i) (allN h c (d + 1)) HJ6.out rfl nodes_enters encN_size (fun _ W => W) (fun x W => Below.refl _ _) .ret .ret (.inl ⟨rfl, rfl⟩) ?round ?call ?done ?stop
      case round =>
        intro l2 x Wl hl2 hl2'
        simp only [encN]
        gi_wp2
        refine ⟨rfl, fun A3 p2 W2 hJ2 _ hT2 hpl hA3 hst2 _ hk _ => ?_⟩
        obtain ⟨_, _, c2, _, _, _⟩ := HRD.out W2 (HS6.out.trans (hst2.mono HA6.out))
        obtain ⟨fn, tmps, assign, body, hy, hRR⟩ := HP.out.turn A3 p2 x W2 hJ2 hT2 hpl
        have HRR := Lib.hid hRR
        simp only [encN] at hy
        clear hk hJ2 hT2 hpl hA3 hst2 hRR
        gi_wp2_with fail
        refine ⟨rfl, RoundIn.mono (round_at (r := none) (r' := some l2) HRR.out) ?_⟩
        rintro e w3 (⟨rfl, hJ3, hst3⟩ | ⟨rfl, hJ3, hst3⟩)
        · have HE := Lib.hid (And.intro hJ3 hst3)
          clear hJ3 hst3 hy
          gi_wp2_with fail
          exact HE.out
        · have HE := Lib.hid (And.intro hJ3 hst3)
          clear hJ3 hst3 hy
          gi_wp2_with fail
          exact HE.out
      case call =>
        intro l2 nn J2 Jx2 A3 W3 hpar hJ3 hnn hA3 hst3
        have hs1 : Stay A1 V W3 := HS6.out.trans (hst3.mono HA6.out)
        have hb := HBB.out
        have hlt6 := HP.out.j.lt HJ6.out
        have hA : ∀ k, A k → A3 k := fun k hk => hA3 k (HA6.out k (HSUB.out k hk))
        have hm := List.mem_of_getElem? HC.out
        refine ih G Ok c 3 7 l2 nn K A3 J2 Jx2 (p ++ preN h n d i) B1 B2 (d + 1) W3 (by omega) hpar hJ3 hnn (HTK.out W3 hs1) (fun x hx => HG.out x ((HPK.out _ (List.prefix_refl _)).subset (List.mem_append_right _ hx))) (fun k q hf => hA k (HF.out.1 k q (.inr ⟨c, hm, hf⟩))) (fun k hk => hA k (HF.out.2.1 k hk)) (hA3 _ hb.1) (hA3 _ hb.2.1) ?_ ?_ (by omega) (by omega) ?_
        · rw [hst3.cell (hlt6 _ hb.1) hb.1]; exact hb.2.2.1
        · rw [hst3.cell (hlt6 _ hb.2.1) hb.2.1]; exact hb.2.2.2
        · intro q hq
          rw [List.append_assoc]
          exact HF.out.2.2.1 _ (HPK.out q hq)
      case stop =>
        intro D A3 W3 q hq hJ3 hA3 hst3 hD hDn hDb
        have hnew : D ∉ Ds := fun hx => by
          obtain ⟨h1, _⟩ := Array.getElem?_eq_some_iff.1 (HMK6.out.mem D hx).2.2
          omega
        have HJ3 : Hid (Jx A3 (p ++ (preN h n d i ++ q)) W3) := Lib.hid (by rw [← List.append_assoc]; exact hJ3)
        have HPR := Lib.hid (HPK.out q hq)
        have HMKE := Lib.hid ((HMK6.out.stay hA3 hst3).cons hD (Nat.le_trans HN6.out hDn) hDb hnew)
        have HAE : Hid (∀ k, A k → A3 k) := Lib.hid (fun k hk => hA3 k (HA6.out k (HSUB.out k hk)))
        clear hnew hJ3 hA3 hst3 hD hDn hDb
        gi_wp2_with fail
        refine HMKE.out.leaves fun W' ht hs => ⟨.tuple #[], by simp [results, Try.results60, go_sem], ⟨_, rfl⟩, A3, HAE.out, .inr ⟨_, HPR.out, HP.out.x.keep HJ3.out ht hs⟩⟩
      case done =>
        intro D A2 w2 hJ3 hA3 hst3 hD hDn hDb
        have hnew : D ∉ Ds := fun hx => by
          obtain ⟨h1, _⟩ := Array.getElem?_eq_some_iff.1 (HMK6.out.mem D hx).2.2
          omega
        have HJ3 : Hid (J A2 (p ++ preN h n d (i + 1)) w2) := Lib.hid (by rw [preN_next h n d HC.out, ← List.append_assoc]; exact hJ3)
        have HMK3 := Lib.hid ((HMK6.out.stay hA3 hst3).cons hD (Nat.le_trans HN6.out hDn) hDb hnew)
        have HA2 : Hid (∀ k, A1 k → A2 k) := Lib.hid (fun k hk => hA3 k (HA6.out k hk))
        have HS3 : Hid (Stay A1 V w2) := Lib.hid (HS6.out.trans (hst3.mono HA6.out))
        clear hnew hJ3 hA3 hst3 hD hDn hDb
        go_wp2_with fail
        rw [← HCA.out]
        gi_roundg (NK - (i + 1))
        case measure => omega
        case rel => exact ⟨i + 1, A2, D :: Ds, by go_num, by omega, Nat.le_refl _, HJ3, HA2, HS3, HMK3⟩
    · obtain rfl : i = NK := by omega
      have hltz : ¬ (i : Int) < (i : Int) := by omega
      have HJE : Hid (J A' (p ++ allN (h + 1) n d) w) := Lib.hid (by have := HJi.out; rwa [preN_all h n d (by rw [HM.out.2]; exact Nat.le_refl _)] at this)
      have HMKE := HMK
      have HAE : Hid (∀ k, A k → A' k) := Lib.hid (fun k hk => HA.out k (HSUB.out k hk))
      gi_wp2_with fail
      refine HMKE.out.leaves fun W' ht hs => ⟨.tuple #[], by simp [results, Try.results60, go_sem], ⟨_, rfl⟩, A', HAE.out, .inl (HP.out.j.keep HJE.out ht hs)⟩
  · have HJ2 : Hid (Jx A1 (p ++ preN h n d 0) w2) := Lib.hid (by rw [HP0.out]; exact hJ2)
    have HPR := Lib.hid (preN_pre h n d 0)
    have HMKE := Lib.hid (Marks.nil A1 n0 w2)
    have HAE := HSUB
    clear hJ2 hst2 hy c0 c1 c2 c3 c4 ylt glt bltV dltV
    gi_wp2_with fail
    go_wp2_with fail
    refine HMKE.out.leaves fun W' ht hs => ⟨.tuple #[], by simp [results, Try.results60, go_sem], ⟨_, rfl⟩, A1, HAE.out, .inr ⟨_, HPR.out, HP.out.x.keep HJ2.out ht hs⟩⟩
end

theorem nodes_all : ∀ h, NodesC h
  | 0 => fun _ _ n => Empty.elim n
  | h + 1 => nodes_step h (nodes_all h)

end Go.Proofs.Ytfikaccgpjiedaa

