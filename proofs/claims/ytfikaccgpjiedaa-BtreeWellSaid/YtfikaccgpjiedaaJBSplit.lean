/-
  A child is parted in two.
-/
import Derived.Test.YtfikaccgpjiedaaJJ16
import Derived.Test.YtfikaccgpjiedaaJRegL
namespace Go.Proofs.Ytfikaccgpjiedaa
open Go.RowKit Go.Lib

theorem kid_at {W : World} {a : Option Addr} {n c : Nat} {gs : List Nat} (h : RowS 1 W a n c (gs.map nv)) {i g : Nat} (hx : gs[i]? = some g) :
    ∃ b o, a = some ⟨b, o, none⟩ ∧ W.cell? ⟨b, o + i, none⟩ = some (.pointer (some ⟨g, 0, none⟩)) ∧ W.frozen? ⟨b, o + i, none⟩ = false ∧ b < W.heap.size := by
  have hi := (List.getElem?_eq_some_iff.1 hx).1
  have hl := h.len
  rw [List.length_map] at hl
  have hnc := h.nc
  rcases h.at' with ⟨_, h0⟩ | ⟨b, o, rfl, hb, hc, hr⟩
  · omega
  · exact ⟨b, o, rfl, hc _ _ (by simp [hx, nv]), (hr i (by omega)).2, hb⟩

theorem map_at {α β : Type} (f : α → β) (A : List α) (c : α) (B : List α) : ((A ++ c :: B).map f)[A.length]? = some (f c) := by simp
theorem map_len {α β : Type} (f : α → β) (A : List α) (c : α) (B : List α) : A.length < ((A ++ c :: B).map f).length := by simp

/-- What split leaves. -/
def SplitS (h : Nat) (w w' : World) (n : Nd (Nd (Kid h))) (A B : List (Nd (Kid h))) (c : Nd (Kid h)) (E F : List CE) (m : Nat) (x : CE) : Prop :=
  ∃ (n' : Nd (Nd (Kid h))) (l r : Nd (Kid h)), Res (h + 2) w w' n n' ∧ n'.es = E ++ x :: F ∧ n'.ks = A ++ l :: r :: B ∧ l.es = c.es.take m ∧ l.ks = c.ks.take (m + 1) ∧ r.es = c.es.drop (m + 1) ∧ r.ks = c.ks.drop (m + 1)

theorem splice_ins (E F : List CE) (x : CE) : insC 2 (flatC (E ++ F)) E.length [.slice x.a x.e.key.length x.c, .int .i64 x.e.id] = flatC (E ++ x :: F) := by
  unfold insC
  rw [flatC_take, flatC_drop, flatC_app, flatC_cons]
  simp [CE.cs]
theorem splice_rep {α : Type} (f : α → Nat) (A B : List α) (c l r : α) : repC (((A ++ c :: B).map f).map nv) A.length [nv (f l), nv (f r)] = ((A ++ l :: r :: B).map f).map nv := by
  have hc : ∀ (X Z : List Value) (y : Value) (ns : List Value), repC (X ++ y :: Z) X.length ns = X ++ ns ++ Z := fun X Z y ns => by
    unfold repC
    rw [List.take_left, show X.length + 1 = (X ++ [y]).length by simp, show X ++ y :: Z = (X ++ [y]) ++ Z by simp, List.drop_left]
  have := hc ((A.map f).map nv) ((B.map f).map nv) (nv (f c)) [nv (f l), nv (f r)]
  simpa using this

theorem TouchC.two {F G H : Ft} {w w1 w2 : World} (a : TouchC F w w1) (b : TouchC G w1 w2) (hF : ∀ k p, k < w.heap.size → F k p → H k p) (hG : ∀ k p, k < w.heap.size → G k p → H k p) : TouchC H w w2 := (a.mono hF).trans b hG

/-- The second of two cells is written. -/
def lit2 (W : World) (g : Nat) (v : Value) : World := W.setCell ⟨g, 1, none⟩ v
theorem lit_put1 {W : World} {g : Nat} {u v : Value} (h : Lit W g [u, v]) {v' : Value} (h2 : v'.oneCell' = true) : Lit (W.setCell ⟨g, 1, none⟩ v') g [u, v'] := by
  obtain ⟨c0, c1, f0, f1⟩ := h.two
  refine ⟨by simpa [World.setCell] using h.lt, fun j x hx => ?_, fun j => ?_, fun x hx => ?_⟩
  · match j, hx with
    | 0, hx => simp at hx; subst hx; rw [World.cell?_setCell_other _ _ _ _ (by simp)]; exact c0
    | 1, hx => simp at hx; subst hx; exact World.cell?_setCell_same _ _ _ c1
    | j + 2, hx => simp at hx
  · rw [World.frozen?_setCell]
    exact h.fz j
  · simp at hx
    rcases hx with rfl | rfl
    · exact h.one _ (List.mem_cons_self ..)
    · exact h2

set_option maxRecDepth 100000 in
set_option maxHeartbeats 4000000 in
theorem split_is (h : Nat) (n : Nd (Nd (Kid h))) (A B : List (Nd (Kid h))) (c : Nd (Kid h)) (E F : List CE) (i m : Nat) (x : CE) (w : World) (hn : InN w (h + 2) n) (hk : n.ks = A ++ c :: B) (hA : A.length = i) (he : n.es = E ++ F) (hE : E.length = i)
    (h1 : n.es.length ≤ 100) (h2 : 8 ≤ c.es.length) (h3 : c.es.length ≤ 100) (h4 : n.ks.length ≤ 100) (h5 : h ≠ 0 → c.ks.length = c.es.length + 1) (hm' : c.es.length / 2 = m) (hx : c.es[m]? = some x) :
    Calls Try.prog 28 #[.pointer (some ⟨n.g, 0, none⟩), .int .i64 (i : Int)] w fun e w' => e = .returned (.tuple #[]) ∧ SplitS h w w' n A B c E F m x := by
  have mixed : Try.prog.follows Departure.mixedOrders = true := by kernel_rfl
  have hcm : c ∈ n.ks := by rw [hk]; simp
  have hs := hn.self
  have hnc : InN w (h + 1) c := hn.kids.2 c hcm
  have hsc : SelfN w (kg h) c := hnc.self
  have hfcn : ∀ k p, foot (h + 1) c k p → foot (h + 2) n k p := fun k p hf => .inr ⟨c, hcm, hf⟩
  obtain ⟨L, hL⟩ : ∃ L, c.es.length = L := ⟨_, rfl⟩
  rw [hL] at hm'
  have hmz : Int.tdiv (L : Int) 2 = (m : Int) := by rw [← hm']; exact (Int.ofNat_tdiv L 2).symm
  have hmL' : m + 3 ≤ L := by omega
  obtain ⟨eb, eo, hea, d0, d1, _, _, dlt⟩ := ent_at hsc.er hx
  have hgi : (n.ks.map (kg (h + 1)))[i]? = some c.g := by rw [hk, ← hA]; exact map_at (kg (h + 1)) A c B
  obtain ⟨cb, co, hca, k0, _, klt⟩ := kid_at hs.cr hgi
  have alt := hs.lt
  have blt := hsc.lt
  have a0 := hs.g0
  have a1 := hs.g1
  have b0 := hsc.g0
  have b1 := hsc.g1
  have nc := hsc.er.nc
  rw [hL] at b0 nc
  rw [hea] at b0
  rw [hca] at a1
  obtain ⟨N, hN⟩ : ∃ N, n.ks.length = N := ⟨_, rfl⟩
  have hN' : (n.ks.map (kg (h + 1))).length = N := by rw [← hN]; exact List.length_map _
  have hNi : i < N := by rw [← hN', hk, ← hA]; exact map_len (kg (h + 1)) A c B
  have hNiz : (i : Int) < (N : Int) := by omega
  rw [hN'] at a1
  obtain ⟨M, hM⟩ : ∃ M, n.es.length = M := ⟨_, rfl⟩
  have hiM : i ≤ M := by rw [← hM, he, ← hE]; simp
  rw [hM] at a0
  have hM100 : M ≤ 100 := by omega
  have hN100 : N ≤ 100 := by omega
  have hL100 : L ≤ 100 := by omega
  have hm100 : m ≤ 100 := by omega
  have hmL : (m : Int) < (L : Int) := by omega
  have z1 : m ≤ c.ec := by omega
  have z2 : (m : Int) ≤ (c.ec : Int) := by omega
  have z3 : (m : Int) + 1 ≤ (L : Int) := by omega
  obtain ⟨G, hG⟩ : ∃ G, w.heap.size = G := ⟨_, rfl⟩
  obtain ⟨KL, hKL⟩ : ∃ KL, c.ks.length = KL := ⟨_, rfl⟩
  obtain ⟨z, hz⟩ : ∃ z, decide (KL = 0) = z := ⟨_, rfl⟩
  rw [List.length_map, hKL] at b1
  obtain ⟨W3, hW3⟩ : ∃ W3, ((w.alloc (.cells #[.slice x.a x.e.key.length x.c, .int .i64 x.e.id] 37)).alloc (.cells #[.slice (some ⟨eb, eo, none⟩) m m, .slice none 0 0] 56)).alloc (.cells #[.slice (some ⟨eb, eo + (m + 1) * 2, none⟩) (L - (m + 1)) (c.ec - (m + 1)), .slice none 0 0] 56) = W3 := ⟨_, rfl⟩
  have one2 : ∀ (a b : Value), a.oneCell' = true → b.oneCell' = true → ∀ v ∈ [a, b], v.oneCell' = true := fun a b ha hb v hv => by
    simp at hv
    rcases hv with rfl | rfl
    · exact ha
    · exact hb
  have b12 := Below.allocs w (.cells #[.slice x.a x.e.key.length x.c, .int .i64 x.e.id] 37)
  have b23 := Below.allocs (w.alloc (.cells #[.slice x.a x.e.key.length x.c, .int .i64 x.e.id] 37)) (.cells #[.slice (some ⟨eb, eo, none⟩) m m, .slice none 0 0] 56)
  have b34 := Below.allocs ((w.alloc (.cells #[.slice x.a x.e.key.length x.c, .int .i64 x.e.id] 37)).alloc (.cells #[.slice (some ⟨eb, eo, none⟩) m m, .slice none 0 0] 56)) (.cells #[.slice (some ⟨eb, eo + (m + 1) * 2, none⟩) (L - (m + 1)) (c.ec - (m + 1)), .slice none 0 0] 56)
  have LE := ((Lit.entry w x.a x.e.key.length x.c x.e.id).below b23).below b34
  have LL := (Lit.new (w.alloc (.cells #[.slice x.a x.e.key.length x.c, .int .i64 x.e.id] 37)) [.slice (some ⟨eb, eo, none⟩) m m, .slice none 0 0] 56 (one2 _ _ rfl rfl)).below b34
  have LR := Lit.new ((w.alloc (.cells #[.slice x.a x.e.key.length x.c, .int .i64 x.e.id] 37)).alloc (.cells #[.slice (some ⟨eb, eo, none⟩) m m, .slice none 0 0] 56)) [.slice (some ⟨eb, eo + (m + 1) * 2, none⟩) (L - (m + 1)) (c.ec - (m + 1)), .slice none 0 0] 56 (one2 _ _ rfl rfl)
  have B3 := below_tr (below_tr b12 b23) b34
  have S3 : W3.heap.size = G + 3 := by rw [← hW3, ← hG]; simp
  simp only [World.size_alloc] at LL LR
  rw [hG] at LE LL LR
  rw [hW3] at LE LL LR B3
  have b1' : W3.cell? ⟨c.g, 1, none⟩ = some (.slice c.ca KL c.cc) := by rw [B3.cell (p := ⟨c.g, 1, none⟩) blt]; exact b1
  have hcon := leaf_is c.g KL c.cc c.ca z hz W3 b1'
  have HCM := Lib.hid hcm
  have HW3 := Lib.hid hW3
  have HG := Lib.hid hG
  have HS := Lib.hid hs
  have HSC := Lib.hid hsc
  have HN := Lib.hid hn
  have HNC := Lib.hid hnc
  have HB3 := Lib.hid B3
  have HLE := Lib.hid LE
  have HLL := Lib.hid LL
  have HLR := Lib.hid LR
  have HS3 := Lib.hid S3
  have HZ := Lib.hid hz
  have HH5 := Lib.hid h5
  have HP := Lib.hid (And.intro hk (And.intro hA (And.intro he hE)))
  have HKL := Lib.hid hKL
  have HL := Lib.hid hL
  have HM := Lib.hid hM
  have HNN := Lib.hid hN
  have HEA := Lib.hid (And.intro hea hca)
  have HF := Lib.hid hfcn
  have HNB := Lib.hid blt
  have HNA := Lib.hid alt
  clear hG LE LL LR B3 S3 hz h5 hk hA he hE hKL hL hN hM hN' hgi hx hs hsc hn hnc hW3 b12 b23 b34 hea hca hfcn h1 h2 h3 h4 hcm one2
  go_enter Try.func28, Try.ntmps28
  go_wp2_with fail
  rw [HW3.out]
  simp only [HG.out]
  refine hcon.mono ?_
  rintro e w4 ⟨rfl, hb4⟩
  have HB4 := Lib.hid (below_tr HB3.out hb4)
  have HLE4 := Lib.hid (HLE.out.below hb4)
  have HLL4 := Lib.hid (HLL.out.below hb4)
  have HLR4 := Lib.hid (HLR.out.below hb4)
  have HS4 : Hid (G + 3 ≤ w4.heap.size) := Lib.hid (by have := hb4.size; rw [HS3.out] at this; exact this)
  clear hcon hb4 HB3 HLE HLL HLR b1' a0 a1 b0 b1 d0 d1 k0 dlt klt alt blt hmz hmL z1 z2 z3
  cases z with
  | true =>
    have hKL0 : KL = 0 := by have := HZ.out; simpa using this
    have hck : c.ks = [] := List.eq_nil_of_length_eq_zero (by rw [HKL.out]; exact hKL0)
    obtain ⟨W5, hW5⟩ : ∃ W5, w4 = W5 := ⟨_, rfl⟩
    have HB5 : Hid (Below w.heap.size w W5) := by rw [← hW5]; exact HB4
    have HLE5 : Hid (Lit W5 G [.slice x.a x.e.key.length x.c, .int .i64 x.e.id]) := by rw [← hW5]; exact HLE4
    have HKID : Hid (KidsIn W5 (h + 1) [(⟨G + 1, some ⟨eb, eo, none⟩, m, none, 0, c.es.take m, []⟩ : Nd (Kid h)), (⟨G + 1 + 1, some ⟨eb, eo + (m + 1) * 2, none⟩, c.ec - (m + 1), none, 0, c.es.drop (m + 1), []⟩ : Nd (Kid h))] ∧
        ∀ k p, footL (h + 1) [(⟨G + 1, some ⟨eb, eo, none⟩, m, none, 0, c.es.take m, []⟩ : Nd (Kid h)), (⟨G + 1 + 1, some ⟨eb, eo + (m + 1) * 2, none⟩, c.ec - (m + 1), none, 0, c.es.drop (m + 1), []⟩ : Nd (Kid h))] k p → foot (h + 1) c k p ∨ k = G + 1 ∨ k = G + 1 + 1) := Lib.hid (by
      refine part_is (HNC.out.below HB5.out) (G + 1) (G + 1 + 1) m eb eo HEA.out.1 (by rw [HL.out]; omega) none none 0 0 [] [] (by rw [← hW5]; exact HLL4.out) (by rw [HL.out, ← hW5]; exact HLR4.out) (by omega) (fun p hf => ?_) (fun p hf => ?_) (by rw [hck]; rfl) (RowS.nil _ _) (RowS.nil _ _) (fun k p hx => absurd hx (slf_nil _ _ _ _)) (fun k p hx => absurd hx (slf_nil _ _ _ _)) (fun k p hx => absurd hx (slf_nil _ _ _ _))
      · have := HNC.out.lt _ p hf; have := HG.out; omega
      · have := HNC.out.lt _ p hf; have := HG.out; omega)
    have lke : ([] : List (Kid h)) = c.ks.take (m + 1) := by rw [hck]; simp
    have rke : ([] : List (Kid h)) = c.ks.drop (m + 1) := by rw [hck]; simp
    have HKE := Lib.hid (And.intro lke rke)
    have HS5 : Hid (G + 3 ≤ W5.heap.size) := by rw [← hW5]; exact HS4
    rw [hW5]
    clear lke rke hck hW5 HLE4 HLL4 HLR4 HB4 HS4
    have HIN5 := Lib.hid (HN.out.below HB5.out)
    obtain ⟨e0, e1, _, _⟩ := HLE5.out.two
    have elt := HLE5.out.lt
    have s5 := HIN5.out.self
    have a0 := s5.g0
    have a1 := s5.g1
    have alt := s5.lt
    rw [HM.out] at a0
    rw [HEA.out.2] at a1
    have hN' : (n.ks.map (kg (h + 1))).length = N := by rw [← HNN.out]; exact List.length_map _
    rw [hN'] at a1
    -- slices.Insert
    obtain ⟨V, hV⟩ : ∃ V, W5.heap.size = V := ⟨_, rfl⟩
    have bd5 := below_drw W5
    have ba5 := Below.allocs W5.drew (.cells #[.slice x.a x.e.key.length x.c, .int .i64 x.e.id] 37)
    have b56 := bd5.trans (ba5.mono bd5.size)
    have er6 := s5.er.below b56
    rw [HM.out] at er6
    have lv6 := Lit.entry W5.drew x.a x.e.key.length x.c x.e.id
    have elt5 := s5.er.lt
    rw [show W5.drew.heap.size = V from hV] at lv6
    have hins := ins_is (W5.drew.alloc (.cells #[.slice x.a x.e.key.length x.c, .int .i64 x.e.id] 37)) n.ea M n.ec i (flatC n.es) V 1 (.slice x.a x.e.key.length x.c) (.int .i64 x.e.id) er6 (by omega) hiM lv6 (fun b o e hb => by
      rcases s5.er.at' with ⟨e', _⟩ | ⟨b', o', e', hlt, _⟩
      · rw [e] at e'; cases e'
      · rw [e] at e'; cases e'; omega)
    have HV := Lib.hid hV
    have HINS := Lib.hid hins
    have HN' := Lib.hid hN'
    clear s5 bd5 ba5 b56 er6 lv6 hins elt5 hV hN'
    have HSD : Hid (W5.drew.cell? ⟨n.g, 0, none⟩ = some (.slice n.ea M n.ec) ∧ W5.drew.cell? ⟨G, 0, none⟩ = some (.slice x.a x.e.key.length x.c) ∧ W5.drew.cell? ⟨G, 1, none⟩ = some (.int .i64 x.e.id)) := Lib.hid ⟨a0, e0, e1⟩
    have HSE : Hid ((W5.drew.alloc (.cells #[.slice x.a x.e.key.length x.c, .int .i64 x.e.id] 37)).cell? ⟨n.g, 0, none⟩ = some (.slice n.ea M n.ec) ∧ (W5.drew.alloc (.cells #[.slice x.a x.e.key.length x.c, .int .i64 x.e.id] 37)).cell? ⟨G, 0, none⟩ = some (.slice x.a x.e.key.length x.c) ∧ (W5.drew.alloc (.cells #[.slice x.a x.e.key.length x.c, .int .i64 x.e.id] 37)).cell? ⟨G, 1, none⟩ = some (.int .i64 x.e.id)) := Lib.hid (by
      obtain ⟨q0, q1, q2⟩ := HSD.out
      have hb := Below.allocs W5.drew (.cells #[.slice x.a x.e.key.length x.c, .int .i64 x.e.id] 37)
      exact ⟨by rw [hb.cell (p := ⟨n.g, 0, none⟩) alt]; exact q0, by rw [hb.cell (p := ⟨G, 0, none⟩) elt]; exact q1, by rw [hb.cell (p := ⟨G, 1, none⟩) elt]; exact q2⟩)
    have HSF : Hid (∀ W, TouchC (SlF 2 n.ea n.ec) (W5.drew.alloc (.cells #[.slice x.a x.e.key.length x.c, .int .i64 x.e.id] 37)) W → W.cell? ⟨n.g, 0, none⟩ = some (.slice n.ea M n.ec) ∧ W.cell? ⟨G, 0, none⟩ = some (.slice x.a x.e.key.length x.c) ∧ W.cell? ⟨G, 1, none⟩ = some (.int .i64 x.e.id)) := Lib.hid (fun W ht => by
      obtain ⟨q0, q1, q2⟩ := HSE.out
      have hs := HIN5.out.self
      have hsz : G < (W5.drew.alloc (.cells #[.slice x.a x.e.key.length x.c, .int .i64 x.e.id] 37)).heap.size := by rw [World.size_alloc]; exact Nat.lt_succ_of_lt elt
      have hsn : n.g < (W5.drew.alloc (.cells #[.slice x.a x.e.key.length x.c, .int .i64 x.e.id] 37)).heap.size := by rw [World.size_alloc]; exact Nat.lt_succ_of_lt alt
      have hG : ∀ p, ¬ SlF 2 n.ea n.ec G p := fun p hx => by have := HN.out.self.er.lt G p hx; have := HG.out; omega
      exact ⟨by rw [ht.cell n.g 0 hsn (hs.d1 n.g 0 ⟨rfl, by omega⟩)]; exact q0, by rw [ht.cell G 0 hsz (hG 0)]; exact q1, by rw [ht.cell G 1 hsz (hG 1)]; exact q2⟩)
    go_wp2_with fail
    refine RX.wp_region_lastH 9 (fun W => W.cell? ⟨n.g, 0, none⟩ = some (.slice n.ea M n.ec) ∧ W.cell? ⟨G, 0, none⟩ = some (.slice x.a x.e.key.length x.c) ∧ W.cell? ⟨G, 1, none⟩ = some (.int .i64 x.e.id)) mixed (by kernel_rfl) ?_
    simp only [List.take_succ_cons, List.take_zero, List.drop_succ_cons, List.drop_zero]
    refine wpAnyH_take (i := 0) (oi := _) (v := .pointer (some ⟨n.g, 0, none⟩)) rfl (by kernel_rfl) (by kernel_rfl) (by kernel_rfl) (fun _ _ _ h => h) (Or.inl ⟨by rfl, fun w' hw' => ?_⟩) (HSD.out) ?_
    · go_simp
      try first | with_reducible rfl | simp
    refine wpAnyH_take (i := 1) (oi := _) (v := .pointer (some ⟨n.g, 0, none⟩)) rfl (by kernel_rfl) (by kernel_rfl) (by kernel_rfl) (fun _ _ _ h => h) (Or.inl ⟨by rfl, fun w' hw' => ?_⟩) (HSD.out) ?_
    · go_simp
      try first | with_reducible rfl | simp
    refine wpAnyH_take (i := 2) (oi := _) (v := .pointer (some ⟨n.g, 0, none⟩)) rfl (by kernel_rfl) (by kernel_rfl) (by kernel_rfl) (fun _ _ _ h => h) (Or.inl ⟨by rfl, fun w' hw' => ?_⟩) (HSD.out) ?_
    · go_simp
      try first | with_reducible rfl | simp
    refine wpAnyH_take (i := 3) (oi := _) (v := .pointer (some ⟨n.g, 0, none⟩)) rfl (by kernel_rfl) (by kernel_rfl) (by kernel_rfl) (fun _ _ _ h => h) (Or.inl ⟨by rfl, fun w' hw' => ?_⟩) (HSD.out) ?_
    · go_simp
      try first | with_reducible rfl | simp
    refine wpAnyH_take (i := 4) (oi := _) (v := .slice n.ea M n.ec) rfl (by kernel_rfl) (by kernel_rfl) (by kernel_rfl) (fun _ _ _ h => h) (Or.inl ⟨by rfl, fun w' hw' => ?_⟩) (HSD.out) ?_
    · obtain ⟨j0, j1, j2⟩ := hw'
      go_simp
      try first | with_reducible rfl | simp
    refine wpAnyH_take (i := 5) (oi := _) (v := .int .i64 (i : Int)) rfl (by kernel_rfl) (by kernel_rfl) (by kernel_rfl) (fun _ _ _ h => h) (Or.inl ⟨by rfl, fun w' hw' => ?_⟩) (HSD.out) ?_
    · go_simp
      try first | with_reducible rfl | simp
    refine wpAnyH_take (i := 6) (oi := _) (v := .agg #[.slice x.a x.e.key.length x.c, .int .i64 x.e.id]) rfl (by kernel_rfl) (by kernel_rfl) (by kernel_rfl) (fun _ _ _ h => h) (Or.inl ⟨by rfl, fun w' hw' => ?_⟩) (HSD.out) ?_
    · obtain ⟨j0, j1, j2⟩ := hw'
      go_simp
      try first | with_reducible rfl | simp
    refine RX.anyH_val (i := 7) (v := .slice (some ⟨V, 0, none⟩) 1 1) (w' := W5.drew.alloc (.cells #[.slice x.a x.e.key.length x.c, .int .i64 x.e.id] 37)) (by kernel_rfl) rfl (by rfl) (by go_simp; exact HV.out) (HSE.out) ?_
    refine RX.anyH_call (i := 8) (f := 41) (args := #[.slice n.ea M n.ec, .int .i64 (i : Int), .slice (some ⟨V, 0, none⟩) 1 1]) (by kernel_rfl) rfl (by rfl) (by go_simp) ?_
    refine (show Calls Try.prog _ _ _ _ from HINS.out).mono ?_
    rintro e w7 ⟨a', c', rfl, hr7, hsub7, ht7⟩
    refine ⟨_, rfl, HSF.out w7 ht7, ?_⟩
    refine wpAnyH_done (by kernel_rfl) ?_ _
    unfold RX.lastQ
    -- what holds behind it
    have hS5 := HIN5.out.self
    have b56 : Below W5.heap.size W5 (W5.drew.alloc (.cells #[.slice x.a x.e.key.length x.c, .int .i64 x.e.id] 37)) := (below_drw W5).trans ((Below.allocs _ _).mono (Nat.le_refl _))
    have t57 : TouchC (SlF 2 n.ea n.ec) W5 w7 := (TouchC.of_below b56).trans ht7 (fun _ _ _ hx => hx)
    have hes : insC 2 (flatC n.es) i [.slice x.a x.e.key.length x.c, .int .i64 x.e.id] = flatC (E ++ x :: F) := by rw [HP.out.2.2.1, ← HP.out.2.2.2]; exact splice_ins E F x
    rw [hes] at hr7
    have q0 : w7.cell? ⟨n.g, 0, none⟩ = some (.slice n.ea M n.ec) := by rw [t57.cell n.g 0 hS5.lt (hS5.d1 n.g 0 ⟨rfl, by omega⟩)]; exact a0
    have q1 : w7.cell? ⟨n.g, 1, none⟩ = some (.slice (some ⟨cb, co, none⟩) N n.cc) := by rw [t57.cell n.g 1 hS5.lt (hS5.d1 n.g 1 ⟨rfl, by omega⟩)]; exact a1
    have f0 : w7.frozen? ⟨n.g, 0, none⟩ = false := by rw [t57.fz n.g 0 hS5.lt]; exact hS5.fz 0
    have f1 : w7.frozen? ⟨n.g, 1, none⟩ = false := by rw [t57.fz n.g 1 hS5.lt]; exact hS5.fz 1
    have s7 : V + 1 ≤ w7.heap.size := by have := ht7.size; rw [World.size_alloc, show W5.drew.heap.size = V from HV.out] at this; exact this
    have sub7 : ∀ k p, SlF 2 a' c' k p → SlF 2 n.ea n.ec k p ∨ (V ≤ k ∧ k < w7.heap.size) := fun k p hx => by
      have hlt := hr7.lt k p hx
      rcases hsub7 k p hx with hy | hy
      · exact .inl hy
      · refine .inr ⟨?_, hlt⟩
        have : (W5.drew.alloc (.cells #[.slice x.a x.e.key.length x.c, .int .i64 x.e.id] 37)).heap.size ≤ k := hy
        rw [World.size_alloc, show W5.drew.heap.size = V from HV.out] at this
        omega
    have hgb : n.g < V := by rw [← HV.out]; exact hS5.lt
    -- the store
    obtain ⟨W8, hW8⟩ : ∃ W8, w7.setCell ⟨n.g, 0, none⟩ (.slice a' (M + 1) c') = W8 := ⟨_, rfl⟩
    have t58 : TouchC (fun k p => SlF 2 n.ea n.ec k p ∨ Hd n.g 2 k p) W5 W8 := by rw [← hW8]; exact (t57.mono (fun _ _ _ hx => .inl hx)).setCell (.inr ⟨rfl, by omega⟩) _
    have z8 : W8.heap.size = w7.heap.size := by rw [← hW8]; simp [World.setCell]
    have t78 : TouchC (Hd n.g 2) w7 W8 := by rw [← hW8]; exact (TouchC.refl _ _).setCell ⟨rfl, by omega⟩ _
    have hr8 : RowS 2 W8 a' (M + 1) c' (flatC (E ++ x :: F)) := hr7.touch t78 (fun k p hx hy => by
      rcases sub7 k p hx with h1 | h1
      · exact hS5.d1 k p hy h1
      · have := hy.1; omega)
    have p0 : W8.cell? ⟨n.g, 0, none⟩ = some (.slice a' (M + 1) c') := by rw [← hW8]; exact World.cell?_setCell_same _ _ _ q0
    -- slices.Replace
    have cr8 : RowS 1 W8 (some ⟨cb, co, none⟩) N n.cc ((n.ks.map (kg (h + 1))).map nv) := by
      have := hS5.cr.touch t58 (fun k p hx hy => by
        rcases hy with hy | hy
        · exact hS5.d3 k p hy hx
        · exact hS5.d2 k p hy hx)
      rw [HN'.out, HEA.out.2] at this
      exact this
    have ba8 := Below.allocs W8 (.cells #[.pointer (some ⟨G + 1, 0, none⟩), .pointer (some ⟨G + 1 + 1, 0, none⟩)] 51)
    have lv9 := Lit.new W8 [.pointer (some ⟨G + 1, 0, none⟩), .pointer (some ⟨G + 1 + 1, 0, none⟩)] 51 (by intro v hv; simp at hv; rcases hv with rfl | rfl <;> rfl)
    rw [z8] at lv9
    have hrep := rep_is (W8.alloc (.cells #[.pointer (some ⟨G + 1, 0, none⟩), .pointer (some ⟨G + 1 + 1, 0, none⟩)] 51)) (some ⟨cb, co, none⟩) N n.cc i ((n.ks.map (kg (h + 1))).map nv) w7.heap.size 2 (.pointer (some ⟨G + 1, 0, none⟩)) (.pointer (some ⟨G + 1 + 1, 0, none⟩)) (cr8.below ba8) (by omega) hNi lv9 (fun b o e hb => by
      cases e
      have := cr8.lt cb co (slf_some.2 ⟨rfl, Nat.le_refl _, by have := cr8.nc; omega⟩)
      omega)
    have HREP := Lib.hid hrep
    have HW8 := Lib.hid hW8
    have HP8 := Lib.hid (And.intro t58 (And.intro hr8 (And.intro p0 (And.intro cr8 (And.intro z8 (And.intro sub7 s7))))))
    have c1 : W8.cell? ⟨n.g, 1, none⟩ = some (.slice (some ⟨cb, co, none⟩) N n.cc) := by rw [← hW8, World.cell?_setCell_other _ _ _ _ (by simp)]; exact q1
    clear hrep hW8 t58 hr8 p0 cr8 z8 sub7 s7 lv9 ba8 t78 hes hr7 hsub7 ht7 t57 b56 hS5 e0 e1 elt a0 a1 alt
    go_wp2_with fail
    rw [HW8.out]
    refine (show Calls Try.prog _ _ _ _ from HREP.out).mono ?_
    rintro e w10 ⟨a2, c2, rfl, hr10, hsub10, ht10⟩
    obtain ⟨t58, hr8, p0, cr8, z8, sub7, s7⟩ := HP8.out
    have hS5 := HIN5.out.self
    have ba8 := Below.allocs W8 (.cells #[.pointer (some ⟨G + 1, 0, none⟩), .pointer (some ⟨G + 1 + 1, 0, none⟩)] 51)
    have t810 : TouchC (SlF 1 n.ca n.cc) W8 w10 := by rw [HEA.out.2]; exact (TouchC.of_below ba8).trans ht10 (fun _ _ _ hx => hx)
    have gl8 : n.g < W8.heap.size := by have := t58.size; have := hS5.lt; omega
    have hks : repC ((n.ks.map (kg (h + 1))).map nv) i [.pointer (some ⟨G + 1, 0, none⟩), .pointer (some ⟨G + 1 + 1, 0, none⟩)] = ((A ++ (⟨G + 1, some ⟨eb, eo, none⟩, m, none, 0, c.es.take m, []⟩ : Nd (Kid h)) :: (⟨G + 1 + 1, some ⟨eb, eo + (m + 1) * 2, none⟩, c.ec - (m + 1), none, 0, c.es.drop (m + 1), []⟩ : Nd (Kid h)) :: B).map (kg (h + 1))).map nv := by
      rw [HP.out.1, ← HP.out.2.1]
      exact splice_rep (kg (h + 1)) A B c (⟨G + 1, some ⟨eb, eo, none⟩, m, none, 0, c.es.take m, []⟩ : Nd (Kid h)) (⟨G + 1 + 1, some ⟨eb, eo + (m + 1) * 2, none⟩, c.ec - (m + 1), none, 0, c.es.drop (m + 1), []⟩ : Nd (Kid h))
    rw [hks] at hr10
    have r0 : w10.cell? ⟨n.g, 0, none⟩ = some (.slice a' (M + 1) c') := by rw [t810.cell n.g 0 gl8 (hS5.d2 n.g 0 ⟨rfl, by omega⟩)]; exact p0
    have r1 : w10.cell? ⟨n.g, 1, none⟩ = some (.slice (some ⟨cb, co, none⟩) N n.cc) := by rw [t810.cell n.g 1 gl8 (hS5.d2 n.g 1 ⟨rfl, by omega⟩)]; exact c1
    have f2 : w10.frozen? ⟨n.g, 1, none⟩ = false := by rw [t810.fz n.g 1 gl8, ← HW8.out, World.frozen?_setCell]; exact f1
    obtain ⟨W11, hW11⟩ : ∃ W11, w10.setCell ⟨n.g, 1, none⟩ (.slice a2 (N + 1) c2) = W11 := ⟨_, rfl⟩
    have t811 : TouchC (fun k p => SlF 1 n.ca n.cc k p ∨ Hd n.g 2 k p) W8 W11 := by rw [← hW11]; exact (t810.mono (fun _ _ _ hx => .inl hx)).setCell (.inr ⟨rfl, by omega⟩) _
    have t1011 : TouchC (Hd n.g 2) w10 W11 := by rw [← hW11]; exact (TouchC.refl _ _).setCell ⟨rfl, by omega⟩ _
    have g0 : W11.cell? ⟨n.g, 0, none⟩ = some (.slice a' (M + 1) c') := by rw [← hW11, World.cell?_setCell_other _ _ _ _ (by simp)]; exact r0
    have g1 : W11.cell? ⟨n.g, 1, none⟩ = some (.slice a2 (N + 1) c2) := by rw [← hW11]; exact World.cell?_setCell_same _ _ _ r1
    have sub10 : ∀ k p, SlF 1 a2 c2 k p → SlF 1 n.ca n.cc k p ∨ w7.heap.size ≤ k := fun k p hx => by
      rcases hsub10 k p hx with hy | hy
      · exact .inl (by rw [HEA.out.2]; exact hy)
      · refine .inr ?_
        have : (W8.alloc (.cells #[.pointer (some ⟨G + 1, 0, none⟩), .pointer (some ⟨G + 1 + 1, 0, none⟩)] 51)).heap.size ≤ k := hy
        rw [World.size_alloc, z8] at this
        omega
    have glw : n.g < w.heap.size := HNA.out
    have V5 : V = W5.heap.size := HV.out.symm
    have er11 : RowS 2 W11 a' (M + 1) c' (flatC (E ++ x :: F)) := hr8.touch t811 (fun k p hx hy => by
      rcases sub7 k p hx with h1 | h1 <;> rcases hy with h2 | h2
      · exact hS5.d3 k p h1 h2
      · exact hS5.d1 k p h2 h1
      · have := hS5.cr.lt k p h2; omega
      · have := h2.1; have := hS5.lt; omega)
    have cr11 : RowS 1 W11 a2 (N + 1) c2 (((A ++ (⟨G + 1, some ⟨eb, eo, none⟩, m, none, 0, c.es.take m, []⟩ : Nd (Kid h)) :: (⟨G + 1 + 1, some ⟨eb, eo + (m + 1) * 2, none⟩, c.ec - (m + 1), none, 0, c.es.drop (m + 1), []⟩ : Nd (Kid h)) :: B).map (kg (h + 1))).map nv) := hr10.touch t1011 (fun k p hx hy => by
      rcases sub10 k p hx with h1 | h1
      · exact hS5.d2 k p hy h1
      · have := hy.1; have := hS5.lt; omega)
    have t511 : TouchC (own n) W5 W11 := t58.two t811 (fun k p _ hx => hx.elim (fun h => .inr (.inl h)) .inl) (fun k p _ hx => hx.elim (fun h => .inr (.inr h)) .inl)
    have t11 : TouchC (own n) w W11 := (TouchC.of_below HB5.out).trans t511 (fun _ _ _ h => h)
    -- the children
    obtain ⟨hY, hYf⟩ := HKID.out
    have hYl := hY.lt
    have hY11 : KidsIn W11 (h + 1) [(⟨G + 1, some ⟨eb, eo, none⟩, m, none, 0, c.es.take m, []⟩ : Nd (Kid h)), (⟨G + 1 + 1, some ⟨eb, eo + (m + 1) * 2, none⟩, c.ec - (m + 1), none, 0, c.es.drop (m + 1), []⟩ : Nd (Kid h))] := hY.touch t511 (fun k p hx hy => by
      have hlo := own_lt HN.out.self hy
      rcases hYf k p hx with h1 | h1
      · exact HN.out.dis k p hy ⟨c, HCM.out, h1⟩
      · have := HG.out; omega)
    have hks' := HN.out.kids
    have hdA := HN.out.dis.symm
    rw [HP.out.1] at hks' hdA
    obtain ⟨hs1, hs2⟩ := KidsIn.swap12 (h := h + 1) (A := A) (B := B) (c := c) (l := (⟨G + 1, some ⟨eb, eo, none⟩, m, none, 0, c.es.take m, []⟩ : Nd (Kid h))) (r := (⟨G + 1 + 1, some ⟨eb, eo + (m + 1) * 2, none⟩, c.ec - (m + 1), none, 0, c.es.drop (m + 1), []⟩ : Nd (Kid h))) hks' t11 hdA hY11 (fun k p hx => by
      rcases hYf k p hx with h1 | h1
      · exact .inl h1
      · refine .inr ?_; have := HG.out; omega)
    have hlen1 : (E ++ x :: F).length = M + 1 := by rw [← HM.out, HP.out.2.2.1]; simp; omega
    have hlen2 : (A ++ (⟨G + 1, some ⟨eb, eo, none⟩, m, none, 0, c.es.take m, []⟩ : Nd (Kid h)) :: (⟨G + 1 + 1, some ⟨eb, eo + (m + 1) * 2, none⟩, c.ec - (m + 1), none, 0, c.es.drop (m + 1), []⟩ : Nd (Kid h)) :: B).length = N + 1 := by rw [← HNN.out, HP.out.1]; simp; omega
    have hKf : ∀ k p, footL (h + 1) (A ++ (⟨G + 1, some ⟨eb, eo, none⟩, m, none, 0, c.es.take m, []⟩ : Nd (Kid h)) :: (⟨G + 1 + 1, some ⟨eb, eo + (m + 1) * 2, none⟩, c.ec - (m + 1), none, 0, c.es.drop (m + 1), []⟩ : Nd (Kid h)) :: B) k p → footL (h + 1) n.ks k p ∨ (w.heap.size ≤ k ∧ k < V) := fun k p hx => by
      rcases hs2 k p hx with h1 | h1
      · exact .inl (by rw [HP.out.1]; exact h1)
      · exact .inr ⟨h1.1, by have := hYl k p h1.2; omega⟩
    have hres := up_res (h := h + 1) HN.out a' c' a2 c2 (E ++ x :: F) (A ++ (⟨G + 1, some ⟨eb, eo, none⟩, m, none, 0, c.es.take m, []⟩ : Nd (Kid h)) :: (⟨G + 1 + 1, some ⟨eb, eo + (m + 1) * 2, none⟩, c.ec - (m + 1), none, 0, c.es.drop (m + 1), []⟩ : Nd (Kid h)) :: B) V w7.heap.size (by have := HB5.out.size; omega) (by omega) hs1 hKf sub7 sub10 t11 (M + 1) (N + 1) hlen1 hlen2 g0 g1 er11 cr11
    have HEND : Hid (SplitS h w W11 n A B c E F m x) := Lib.hid ⟨_, (⟨G + 1, some ⟨eb, eo, none⟩, m, none, 0, c.es.take m, []⟩ : Nd (Kid h)), (⟨G + 1 + 1, some ⟨eb, eo + (m + 1) * 2, none⟩, c.ec - (m + 1), none, 0, c.es.drop (m + 1), []⟩ : Nd (Kid h)), hres, rfl, rfl, rfl, HKE.out.1, rfl, HKE.out.2⟩
    have HW11 := Lib.hid hW11
    clear hres hKf hs1 hs2 hY11 hY hYf hYl hks' hdA t11 t511 cr11 er11 sub10 g0 g1 t1011 t811 hW11 hr10 hsub10 ht10 t810 ba8 t58 hr8 p0 cr8 sub7 hks r0 c1 q0 q1 f0 f1
    have r1' := r1
    go_wp2_with fail
    rw [HW11.out]
    go_end0
    exact ⟨rfl, HEND.out⟩
  | false =>
    have hKL0 : KL ≠ 0 := by have := HZ.out; simpa using this
    have hKLL : KL = L + 1 := by
      rw [← HKL.out, ← HL.out]
      refine HH5.out (fun h0 => hKL0 ?_)
      subst h0
      rw [← HKL.out, ks_leaf]
      rfl
    subst hKLL
    have s4 := (HSC.out.touch (F := fun _ _ => False) (TouchC.of_below HB4.out) (fun _ _ _ h => h) (fun _ _ _ h => h) (fun _ _ _ h => h))
    have b1 := s4.g1
    have ncc := s4.cr.nc
    rw [List.length_map, HKL.out] at b1 ncc
    obtain ⟨kb, ko, hcca⟩ : ∃ kb ko, c.ca = some ⟨kb, ko, none⟩ := by
      rcases s4.cr.at' with ⟨_, h0⟩ | ⟨kb, ko, e, _⟩
      · omega
      · exact ⟨kb, ko, e⟩
    have crc := s4.cr
    rw [List.length_map, HKL.out, hcca] at crc
    rw [hcca] at b1
    have blt := s4.lt
    obtain ⟨l0, l1, lf0, lf1⟩ := HLL4.out.two
    obtain ⟨r0, r1, rf0, rf1⟩ := HLR4.out.two
    have llt := HLL4.out.lt
    have rlt := HLR4.out.lt
    have z4 : (m : Int) + 1 ≤ (c.cc : Int) := by omega
    have z5 : (m : Int) + 1 ≤ (L : Int) + 1 := by omega
    have z6 : ((m : Int) + 1).toNat = m + 1 := by omega
    have z7 : (0 : Int) ≤ (m : Int) + 1 := by omega
    have z8 : m ≤ L := by omega
    have z9 : ¬ c.cc = m + 1 := by omega
    obtain ⟨W5, hW5⟩ : ∃ W5, (w4.setCell ⟨G + 1, 1, none⟩ (.slice (some ⟨kb, ko, none⟩) (m + 1) (m + 1))).setCell ⟨G + 1 + 1, 1, none⟩ (.slice (some ⟨kb, ko + (m + 1), none⟩) (L - m) (c.cc - (m + 1))) = W5 := ⟨_, rfl⟩
    have gG := HG.out
    have ne1 : ¬ c.g = G + 1 := by have := HNB.out; omega
    have ne2 : ¬ G + 1 = c.g := by have := HNB.out; omega
    have b45 : Below G w4 W5 := by rw [← hW5]; exact ((Below.refl G w4).setCell (p := ⟨G + 1, 1, none⟩) (by show G ≤ G + 1; omega) _).setCell (p := ⟨G + 1 + 1, 1, none⟩) (by show G ≤ G + 1 + 1; omega) _
    have HB5 : Hid (Below w.heap.size w W5) := Lib.hid (HB4.out.trans (by rw [gG]; exact b45))
    have lit5 : ∀ (g : Nat) (u v : Value), Lit w4 g [u, v] → g ≠ G + 1 → g ≠ G + 1 + 1 → Lit W5 g [u, v] := fun g u v hl h1 h2 => by
      have ht : TouchC (fun k _ => k = G + 1 ∨ k = G + 1 + 1) w4 W5 := by rw [← hW5]; exact ((TouchC.refl _ w4).setCell (.inl rfl) _).setCell (.inr rfl) _
      exact hl.touch ht (fun p hp => hp.elim h1 h2)
    have HLE5 : Hid (Lit W5 G [.slice x.a x.e.key.length x.c, .int .i64 x.e.id]) := Lib.hid (lit5 G _ _ HLE4.out (by omega) (by omega))
    have LL5 : Lit W5 (G + 1) [.slice (some ⟨eb, eo, none⟩) m m, .slice (some ⟨kb, ko, none⟩) (m + 1) (m + 1)] := by
      have e1 : lit2 w4 (G + 1) (.slice (some ⟨kb, ko, none⟩) (m + 1) (m + 1)) = w4.setCell ⟨G + 1, 1, none⟩ (.slice (some ⟨kb, ko, none⟩) (m + 1) (m + 1)) := rfl
      have h1 := lit_put1 HLL4.out (v' := .slice (some ⟨kb, ko, none⟩) (m + 1) (m + 1)) rfl
      have ht : TouchC (fun k _ => k = G + 1 + 1) (w4.setCell ⟨G + 1, 1, none⟩ (.slice (some ⟨kb, ko, none⟩) (m + 1) (m + 1))) W5 := by rw [← hW5]; exact TouchC.setCell (F := fun k _ => k = G + 1 + 1) (TouchC.refl _ _) rfl _
      exact h1.touch ht (fun p hp => by omega)
    have LR5 : Lit W5 (G + 1 + 1) [.slice (some ⟨eb, eo + (m + 1) * 2, none⟩) (L - (m + 1)) (c.ec - (m + 1)), .slice (some ⟨kb, ko + (m + 1), none⟩) (L - m) (c.cc - (m + 1))] := by
      have ht : TouchC (fun k _ => k = G + 1) w4 (w4.setCell ⟨G + 1, 1, none⟩ (.slice (some ⟨kb, ko, none⟩) (m + 1) (m + 1))) := TouchC.setCell (F := fun k _ => k = G + 1) (TouchC.refl _ _) rfl _
      have h1 := lit_put1 (HLR4.out.touch ht (fun p hp => by omega)) (v' := .slice (some ⟨kb, ko + (m + 1), none⟩) (L - m) (c.cc - (m + 1))) rfl
      rw [← hW5]; exact h1
    have crc5 : RowS 1 W5 (some ⟨kb, ko, none⟩) (L + 1) c.cc ((c.ks.map (kg h)).map nv) := by
      have := (HSC.out.touch (F := fun _ _ => False) (TouchC.of_below HB5.out) (fun _ _ _ h => h) (fun _ _ _ h => h) (fun _ _ _ h => h)).cr
      rw [List.length_map, HKL.out, hcca] at this
      exact this
    have hln : (c.ks.take (m + 1)).length = m + 1 := by rw [List.length_take, HKL.out]; omega
    have hrn : (c.ks.drop (m + 1)).length = L - m := by rw [List.length_drop, HKL.out]; omega
    have lcr : RowS 1 W5 (some ⟨kb, ko, none⟩) (c.ks.take (m + 1)).length (m + 1) (((c.ks.take (m + 1)).map (kg h)).map nv) := by
      have := crc5.cut (i := m + 1) (k := m + 1) (by omega) (Nat.le_refl _) (by omega)
      rw [Nat.mul_one] at this
      rw [hln, List.map_take, List.map_take]
      exact this
    have rcr : RowS 1 W5 (some ⟨kb, ko + (m + 1), none⟩) (c.ks.drop (m + 1)).length (c.cc - (m + 1)) (((c.ks.drop (m + 1)).map (kg h)).map nv) := by
      have := crc5.tail (i := m + 1) (by omega)
      rw [Nat.mul_one, show L + 1 - (m + 1) = L - m by omega] at this
      rw [hrn, List.map_drop, List.map_drop]
      exact this
    have HKID : Hid (KidsIn W5 (h + 1) [(⟨G + 1, some ⟨eb, eo, none⟩, m, some ⟨kb, ko, none⟩, m + 1, c.es.take m, c.ks.take (m + 1)⟩ : Nd (Kid h)), (⟨G + 1 + 1, some ⟨eb, eo + (m + 1) * 2, none⟩, c.ec - (m + 1), some ⟨kb, ko + (m + 1), none⟩, c.cc - (m + 1), c.es.drop (m + 1), c.ks.drop (m + 1)⟩ : Nd (Kid h))] ∧ ∀ k p, footL (h + 1) [(⟨G + 1, some ⟨eb, eo, none⟩, m, some ⟨kb, ko, none⟩, m + 1, c.es.take m, c.ks.take (m + 1)⟩ : Nd (Kid h)), (⟨G + 1 + 1, some ⟨eb, eo + (m + 1) * 2, none⟩, c.ec - (m + 1), some ⟨kb, ko + (m + 1), none⟩, c.cc - (m + 1), c.es.drop (m + 1), c.ks.drop (m + 1)⟩ : Nd (Kid h))] k p → foot (h + 1) c k p ∨ k = G + 1 ∨ k = G + 1 + 1) := Lib.hid (by
      refine part_is (HNC.out.below HB5.out) (G + 1) (G + 1 + 1) m eb eo HEA.out.1 (by rw [HL.out]; omega) (some ⟨kb, ko, none⟩) (some ⟨kb, ko + (m + 1), none⟩) (m + 1) (c.cc - (m + 1)) (c.ks.take (m + 1)) (c.ks.drop (m + 1)) (by rw [hln]; exact LL5) (by rw [HL.out, hrn]; exact LR5) (by omega) (fun p hf => ?_) (fun p hf => ?_) (List.take_append_drop _ _).symm lcr rcr (fun k p hx => by rw [hcca]; exact slf_le hx (by omega)) (fun k p hx => by rw [hcca]; exact slf_tail (i := m + 1) (by rw [Nat.mul_one]; exact hx) (by omega)) (fun k p hx hy => slf_apart (j := m + 1) hx (by rw [Nat.mul_one]; exact hy) (Nat.le_refl _))
      · have := HNC.out.lt _ p hf; have := HG.out; omega
      · have := HNC.out.lt _ p hf; have := HG.out; omega)
    have HS5 : Hid (G + 3 ≤ W5.heap.size) := Lib.hid (Nat.le_trans HS4.out b45.size)
    have HW5 := Lib.hid hW5
    clear rcr lcr crc5 LL5 LR5 lit5 b45 hW5 crc s4 gG hKL0 hln hrn ncc
    go_wp2_with fail
    rw [HW5.out]
    clear z4 z5 z6 z7 z8 z9 l0 l1 lf0 lf1 r0 r1 rf0 rf1 llt rlt b1 blt hcca HLE4 HLL4 HLR4 HB4 HS4
    have HIN5 := Lib.hid (HN.out.below HB5.out)
    obtain ⟨e0, e1, _, _⟩ := HLE5.out.two
    have elt := HLE5.out.lt
    have s5 := HIN5.out.self
    have a0 := s5.g0
    have a1 := s5.g1
    have alt := s5.lt
    rw [HM.out] at a0
    rw [HEA.out.2] at a1
    have hN' : (n.ks.map (kg (h + 1))).length = N := by rw [← HNN.out]; exact List.length_map _
    rw [hN'] at a1
    -- slices.Insert
    obtain ⟨V, hV⟩ : ∃ V, W5.heap.size = V := ⟨_, rfl⟩
    have bd5 := below_drw W5
    have ba5 := Below.allocs W5.drew (.cells #[.slice x.a x.e.key.length x.c, .int .i64 x.e.id] 37)
    have b56 := bd5.trans (ba5.mono bd5.size)
    have er6 := s5.er.below b56
    rw [HM.out] at er6
    have lv6 := Lit.entry W5.drew x.a x.e.key.length x.c x.e.id
    have elt5 := s5.er.lt
    rw [show W5.drew.heap.size = V from hV] at lv6
    have hins := ins_is (W5.drew.alloc (.cells #[.slice x.a x.e.key.length x.c, .int .i64 x.e.id] 37)) n.ea M n.ec i (flatC n.es) V 1 (.slice x.a x.e.key.length x.c) (.int .i64 x.e.id) er6 (by omega) hiM lv6 (fun b o e hb => by
      rcases s5.er.at' with ⟨e', _⟩ | ⟨b', o', e', hlt, _⟩
      · rw [e] at e'; cases e'
      · rw [e] at e'; cases e'; omega)
    have HV := Lib.hid hV
    have HINS := Lib.hid hins
    have HN' := Lib.hid hN'
    clear s5 bd5 ba5 b56 er6 lv6 hins elt5 hV hN'
    have HSD : Hid (W5.drew.cell? ⟨n.g, 0, none⟩ = some (.slice n.ea M n.ec) ∧ W5.drew.cell? ⟨G, 0, none⟩ = some (.slice x.a x.e.key.length x.c) ∧ W5.drew.cell? ⟨G, 1, none⟩ = some (.int .i64 x.e.id)) := Lib.hid ⟨a0, e0, e1⟩
    have HSE : Hid ((W5.drew.alloc (.cells #[.slice x.a x.e.key.length x.c, .int .i64 x.e.id] 37)).cell? ⟨n.g, 0, none⟩ = some (.slice n.ea M n.ec) ∧ (W5.drew.alloc (.cells #[.slice x.a x.e.key.length x.c, .int .i64 x.e.id] 37)).cell? ⟨G, 0, none⟩ = some (.slice x.a x.e.key.length x.c) ∧ (W5.drew.alloc (.cells #[.slice x.a x.e.key.length x.c, .int .i64 x.e.id] 37)).cell? ⟨G, 1, none⟩ = some (.int .i64 x.e.id)) := Lib.hid (by
      obtain ⟨q0, q1, q2⟩ := HSD.out
      have hb := Below.allocs W5.drew (.cells #[.slice x.a x.e.key.length x.c, .int .i64 x.e.id] 37)
      exact ⟨by rw [hb.cell (p := ⟨n.g, 0, none⟩) alt]; exact q0, by rw [hb.cell (p := ⟨G, 0, none⟩) elt]; exact q1, by rw [hb.cell (p := ⟨G, 1, none⟩) elt]; exact q2⟩)
    have HSF : Hid (∀ W, TouchC (SlF 2 n.ea n.ec) (W5.drew.alloc (.cells #[.slice x.a x.e.key.length x.c, .int .i64 x.e.id] 37)) W → W.cell? ⟨n.g, 0, none⟩ = some (.slice n.ea M n.ec) ∧ W.cell? ⟨G, 0, none⟩ = some (.slice x.a x.e.key.length x.c) ∧ W.cell? ⟨G, 1, none⟩ = some (.int .i64 x.e.id)) := Lib.hid (fun W ht => by
      obtain ⟨q0, q1, q2⟩ := HSE.out
      have hs := HIN5.out.self
      have hsz : G < (W5.drew.alloc (.cells #[.slice x.a x.e.key.length x.c, .int .i64 x.e.id] 37)).heap.size := by rw [World.size_alloc]; exact Nat.lt_succ_of_lt elt
      have hsn : n.g < (W5.drew.alloc (.cells #[.slice x.a x.e.key.length x.c, .int .i64 x.e.id] 37)).heap.size := by rw [World.size_alloc]; exact Nat.lt_succ_of_lt alt
      have hG : ∀ p, ¬ SlF 2 n.ea n.ec G p := fun p hx => by have := HN.out.self.er.lt G p hx; have := HG.out; omega
      exact ⟨by rw [ht.cell n.g 0 hsn (hs.d1 n.g 0 ⟨rfl, by omega⟩)]; exact q0, by rw [ht.cell G 0 hsz (hG 0)]; exact q1, by rw [ht.cell G 1 hsz (hG 1)]; exact q2⟩)
    go_wp2_with fail
    refine RX.wp_region_lastH 9 (fun W => W.cell? ⟨n.g, 0, none⟩ = some (.slice n.ea M n.ec) ∧ W.cell? ⟨G, 0, none⟩ = some (.slice x.a x.e.key.length x.c) ∧ W.cell? ⟨G, 1, none⟩ = some (.int .i64 x.e.id)) mixed (by kernel_rfl) ?_
    simp only [List.take_succ_cons, List.take_zero, List.drop_succ_cons, List.drop_zero]
    refine wpAnyH_take (i := 0) (oi := _) (v := .pointer (some ⟨n.g, 0, none⟩)) rfl (by kernel_rfl) (by kernel_rfl) (by kernel_rfl) (fun _ _ _ h => h) (Or.inl ⟨by rfl, fun w' hw' => ?_⟩) (HSD.out) ?_
    · go_simp
      try first | with_reducible rfl | simp
    refine wpAnyH_take (i := 1) (oi := _) (v := .pointer (some ⟨n.g, 0, none⟩)) rfl (by kernel_rfl) (by kernel_rfl) (by kernel_rfl) (fun _ _ _ h => h) (Or.inl ⟨by rfl, fun w' hw' => ?_⟩) (HSD.out) ?_
    · go_simp
      try first | with_reducible rfl | simp
    refine wpAnyH_take (i := 2) (oi := _) (v := .pointer (some ⟨n.g, 0, none⟩)) rfl (by kernel_rfl) (by kernel_rfl) (by kernel_rfl) (fun _ _ _ h => h) (Or.inl ⟨by rfl, fun w' hw' => ?_⟩) (HSD.out) ?_
    · go_simp
      try first | with_reducible rfl | simp
    refine wpAnyH_take (i := 3) (oi := _) (v := .pointer (some ⟨n.g, 0, none⟩)) rfl (by kernel_rfl) (by kernel_rfl) (by kernel_rfl) (fun _ _ _ h => h) (Or.inl ⟨by rfl, fun w' hw' => ?_⟩) (HSD.out) ?_
    · go_simp
      try first | with_reducible rfl | simp
    refine wpAnyH_take (i := 4) (oi := _) (v := .slice n.ea M n.ec) rfl (by kernel_rfl) (by kernel_rfl) (by kernel_rfl) (fun _ _ _ h => h) (Or.inl ⟨by rfl, fun w' hw' => ?_⟩) (HSD.out) ?_
    · obtain ⟨j0, j1, j2⟩ := hw'
      go_simp
      try first | with_reducible rfl | simp
    refine wpAnyH_take (i := 5) (oi := _) (v := .int .i64 (i : Int)) rfl (by kernel_rfl) (by kernel_rfl) (by kernel_rfl) (fun _ _ _ h => h) (Or.inl ⟨by rfl, fun w' hw' => ?_⟩) (HSD.out) ?_
    · go_simp
      try first | with_reducible rfl | simp
    refine wpAnyH_take (i := 6) (oi := _) (v := .agg #[.slice x.a x.e.key.length x.c, .int .i64 x.e.id]) rfl (by kernel_rfl) (by kernel_rfl) (by kernel_rfl) (fun _ _ _ h => h) (Or.inl ⟨by rfl, fun w' hw' => ?_⟩) (HSD.out) ?_
    · obtain ⟨j0, j1, j2⟩ := hw'
      go_simp
      try first | with_reducible rfl | simp
    refine RX.anyH_val (i := 7) (v := .slice (some ⟨V, 0, none⟩) 1 1) (w' := W5.drew.alloc (.cells #[.slice x.a x.e.key.length x.c, .int .i64 x.e.id] 37)) (by kernel_rfl) rfl (by rfl) (by go_simp; exact HV.out) (HSE.out) ?_
    refine RX.anyH_call (i := 8) (f := 41) (args := #[.slice n.ea M n.ec, .int .i64 (i : Int), .slice (some ⟨V, 0, none⟩) 1 1]) (by kernel_rfl) rfl (by rfl) (by go_simp) ?_
    refine (show Calls Try.prog _ _ _ _ from HINS.out).mono ?_
    rintro e w7 ⟨a', c', rfl, hr7, hsub7, ht7⟩
    refine ⟨_, rfl, HSF.out w7 ht7, ?_⟩
    refine wpAnyH_done (by kernel_rfl) ?_ _
    unfold RX.lastQ
    -- what holds behind it
    have hS5 := HIN5.out.self
    have b56 : Below W5.heap.size W5 (W5.drew.alloc (.cells #[.slice x.a x.e.key.length x.c, .int .i64 x.e.id] 37)) := (below_drw W5).trans ((Below.allocs _ _).mono (Nat.le_refl _))
    have t57 : TouchC (SlF 2 n.ea n.ec) W5 w7 := (TouchC.of_below b56).trans ht7 (fun _ _ _ hx => hx)
    have hes : insC 2 (flatC n.es) i [.slice x.a x.e.key.length x.c, .int .i64 x.e.id] = flatC (E ++ x :: F) := by rw [HP.out.2.2.1, ← HP.out.2.2.2]; exact splice_ins E F x
    rw [hes] at hr7
    have q0 : w7.cell? ⟨n.g, 0, none⟩ = some (.slice n.ea M n.ec) := by rw [t57.cell n.g 0 hS5.lt (hS5.d1 n.g 0 ⟨rfl, by omega⟩)]; exact a0
    have q1 : w7.cell? ⟨n.g, 1, none⟩ = some (.slice (some ⟨cb, co, none⟩) N n.cc) := by rw [t57.cell n.g 1 hS5.lt (hS5.d1 n.g 1 ⟨rfl, by omega⟩)]; exact a1
    have f0 : w7.frozen? ⟨n.g, 0, none⟩ = false := by rw [t57.fz n.g 0 hS5.lt]; exact hS5.fz 0
    have f1 : w7.frozen? ⟨n.g, 1, none⟩ = false := by rw [t57.fz n.g 1 hS5.lt]; exact hS5.fz 1
    have s7 : V + 1 ≤ w7.heap.size := by have := ht7.size; rw [World.size_alloc, show W5.drew.heap.size = V from HV.out] at this; exact this
    have sub7 : ∀ k p, SlF 2 a' c' k p → SlF 2 n.ea n.ec k p ∨ (V ≤ k ∧ k < w7.heap.size) := fun k p hx => by
      have hlt := hr7.lt k p hx
      rcases hsub7 k p hx with hy | hy
      · exact .inl hy
      · refine .inr ⟨?_, hlt⟩
        have : (W5.drew.alloc (.cells #[.slice x.a x.e.key.length x.c, .int .i64 x.e.id] 37)).heap.size ≤ k := hy
        rw [World.size_alloc, show W5.drew.heap.size = V from HV.out] at this
        omega
    have hgb : n.g < V := by rw [← HV.out]; exact hS5.lt
    -- the store
    obtain ⟨W8, hW8⟩ : ∃ W8, w7.setCell ⟨n.g, 0, none⟩ (.slice a' (M + 1) c') = W8 := ⟨_, rfl⟩
    have t58 : TouchC (fun k p => SlF 2 n.ea n.ec k p ∨ Hd n.g 2 k p) W5 W8 := by rw [← hW8]; exact (t57.mono (fun _ _ _ hx => .inl hx)).setCell (.inr ⟨rfl, by omega⟩) _
    have z8 : W8.heap.size = w7.heap.size := by rw [← hW8]; simp [World.setCell]
    have t78 : TouchC (Hd n.g 2) w7 W8 := by rw [← hW8]; exact (TouchC.refl _ _).setCell ⟨rfl, by omega⟩ _
    have hr8 : RowS 2 W8 a' (M + 1) c' (flatC (E ++ x :: F)) := hr7.touch t78 (fun k p hx hy => by
      rcases sub7 k p hx with h1 | h1
      · exact hS5.d1 k p hy h1
      · have := hy.1; omega)
    have p0 : W8.cell? ⟨n.g, 0, none⟩ = some (.slice a' (M + 1) c') := by rw [← hW8]; exact World.cell?_setCell_same _ _ _ q0
    -- slices.Replace
    have cr8 : RowS 1 W8 (some ⟨cb, co, none⟩) N n.cc ((n.ks.map (kg (h + 1))).map nv) := by
      have := hS5.cr.touch t58 (fun k p hx hy => by
        rcases hy with hy | hy
        · exact hS5.d3 k p hy hx
        · exact hS5.d2 k p hy hx)
      rw [HN'.out, HEA.out.2] at this
      exact this
    have ba8 := Below.allocs W8 (.cells #[.pointer (some ⟨G + 1, 0, none⟩), .pointer (some ⟨G + 1 + 1, 0, none⟩)] 51)
    have lv9 := Lit.new W8 [.pointer (some ⟨G + 1, 0, none⟩), .pointer (some ⟨G + 1 + 1, 0, none⟩)] 51 (by intro v hv; simp at hv; rcases hv with rfl | rfl <;> rfl)
    rw [z8] at lv9
    have hrep := rep_is (W8.alloc (.cells #[.pointer (some ⟨G + 1, 0, none⟩), .pointer (some ⟨G + 1 + 1, 0, none⟩)] 51)) (some ⟨cb, co, none⟩) N n.cc i ((n.ks.map (kg (h + 1))).map nv) w7.heap.size 2 (.pointer (some ⟨G + 1, 0, none⟩)) (.pointer (some ⟨G + 1 + 1, 0, none⟩)) (cr8.below ba8) (by omega) hNi lv9 (fun b o e hb => by
      cases e
      have := cr8.lt cb co (slf_some.2 ⟨rfl, Nat.le_refl _, by have := cr8.nc; omega⟩)
      omega)
    have HREP := Lib.hid hrep
    have HW8 := Lib.hid hW8
    have HP8 := Lib.hid (And.intro t58 (And.intro hr8 (And.intro p0 (And.intro cr8 (And.intro z8 (And.intro sub7 s7))))))
    have c1 : W8.cell? ⟨n.g, 1, none⟩ = some (.slice (some ⟨cb, co, none⟩) N n.cc) := by rw [← hW8, World.cell?_setCell_other _ _ _ _ (by simp)]; exact q1
    clear hrep hW8 t58 hr8 p0 cr8 z8 sub7 s7 lv9 ba8 t78 hes hr7 hsub7 ht7 t57 b56 hS5 e0 e1 elt a0 a1 alt
    go_wp2_with fail
    rw [HW8.out]
    refine (show Calls Try.prog _ _ _ _ from HREP.out).mono ?_
    rintro e w10 ⟨a2, c2, rfl, hr10, hsub10, ht10⟩
    obtain ⟨t58, hr8, p0, cr8, z8, sub7, s7⟩ := HP8.out
    have hS5 := HIN5.out.self
    have ba8 := Below.allocs W8 (.cells #[.pointer (some ⟨G + 1, 0, none⟩), .pointer (some ⟨G + 1 + 1, 0, none⟩)] 51)
    have t810 : TouchC (SlF 1 n.ca n.cc) W8 w10 := by rw [HEA.out.2]; exact (TouchC.of_below ba8).trans ht10 (fun _ _ _ hx => hx)
    have gl8 : n.g < W8.heap.size := by have := t58.size; have := hS5.lt; omega
    have hks : repC ((n.ks.map (kg (h + 1))).map nv) i [.pointer (some ⟨G + 1, 0, none⟩), .pointer (some ⟨G + 1 + 1, 0, none⟩)] = ((A ++ (⟨G + 1, some ⟨eb, eo, none⟩, m, some ⟨kb, ko, none⟩, m + 1, c.es.take m, c.ks.take (m + 1)⟩ : Nd (Kid h)) :: (⟨G + 1 + 1, some ⟨eb, eo + (m + 1) * 2, none⟩, c.ec - (m + 1), some ⟨kb, ko + (m + 1), none⟩, c.cc - (m + 1), c.es.drop (m + 1), c.ks.drop (m + 1)⟩ : Nd (Kid h)) :: B).map (kg (h + 1))).map nv := by
      rw [HP.out.1, ← HP.out.2.1]
      exact splice_rep (kg (h + 1)) A B c (⟨G + 1, some ⟨eb, eo, none⟩, m, some ⟨kb, ko, none⟩, m + 1, c.es.take m, c.ks.take (m + 1)⟩ : Nd (Kid h)) (⟨G + 1 + 1, some ⟨eb, eo + (m + 1) * 2, none⟩, c.ec - (m + 1), some ⟨kb, ko + (m + 1), none⟩, c.cc - (m + 1), c.es.drop (m + 1), c.ks.drop (m + 1)⟩ : Nd (Kid h))
    rw [hks] at hr10
    have r0 : w10.cell? ⟨n.g, 0, none⟩ = some (.slice a' (M + 1) c') := by rw [t810.cell n.g 0 gl8 (hS5.d2 n.g 0 ⟨rfl, by omega⟩)]; exact p0
    have r1 : w10.cell? ⟨n.g, 1, none⟩ = some (.slice (some ⟨cb, co, none⟩) N n.cc) := by rw [t810.cell n.g 1 gl8 (hS5.d2 n.g 1 ⟨rfl, by omega⟩)]; exact c1
    have f2 : w10.frozen? ⟨n.g, 1, none⟩ = false := by rw [t810.fz n.g 1 gl8, ← HW8.out, World.frozen?_setCell]; exact f1
    obtain ⟨W11, hW11⟩ : ∃ W11, w10.setCell ⟨n.g, 1, none⟩ (.slice a2 (N + 1) c2) = W11 := ⟨_, rfl⟩
    have t811 : TouchC (fun k p => SlF 1 n.ca n.cc k p ∨ Hd n.g 2 k p) W8 W11 := by rw [← hW11]; exact (t810.mono (fun _ _ _ hx => .inl hx)).setCell (.inr ⟨rfl, by omega⟩) _
    have t1011 : TouchC (Hd n.g 2) w10 W11 := by rw [← hW11]; exact (TouchC.refl _ _).setCell ⟨rfl, by omega⟩ _
    have g0 : W11.cell? ⟨n.g, 0, none⟩ = some (.slice a' (M + 1) c') := by rw [← hW11, World.cell?_setCell_other _ _ _ _ (by simp)]; exact r0
    have g1 : W11.cell? ⟨n.g, 1, none⟩ = some (.slice a2 (N + 1) c2) := by rw [← hW11]; exact World.cell?_setCell_same _ _ _ r1
    have sub10 : ∀ k p, SlF 1 a2 c2 k p → SlF 1 n.ca n.cc k p ∨ w7.heap.size ≤ k := fun k p hx => by
      rcases hsub10 k p hx with hy | hy
      · exact .inl (by rw [HEA.out.2]; exact hy)
      · refine .inr ?_
        have : (W8.alloc (.cells #[.pointer (some ⟨G + 1, 0, none⟩), .pointer (some ⟨G + 1 + 1, 0, none⟩)] 51)).heap.size ≤ k := hy
        rw [World.size_alloc, z8] at this
        omega
    have glw : n.g < w.heap.size := HNA.out
    have V5 : V = W5.heap.size := HV.out.symm
    have er11 : RowS 2 W11 a' (M + 1) c' (flatC (E ++ x :: F)) := hr8.touch t811 (fun k p hx hy => by
      rcases sub7 k p hx with h1 | h1 <;> rcases hy with h2 | h2
      · exact hS5.d3 k p h1 h2
      · exact hS5.d1 k p h2 h1
      · have := hS5.cr.lt k p h2; omega
      · have := h2.1; have := hS5.lt; omega)
    have cr11 : RowS 1 W11 a2 (N + 1) c2 (((A ++ (⟨G + 1, some ⟨eb, eo, none⟩, m, some ⟨kb, ko, none⟩, m + 1, c.es.take m, c.ks.take (m + 1)⟩ : Nd (Kid h)) :: (⟨G + 1 + 1, some ⟨eb, eo + (m + 1) * 2, none⟩, c.ec - (m + 1), some ⟨kb, ko + (m + 1), none⟩, c.cc - (m + 1), c.es.drop (m + 1), c.ks.drop (m + 1)⟩ : Nd (Kid h)) :: B).map (kg (h + 1))).map nv) := hr10.touch t1011 (fun k p hx hy => by
      rcases sub10 k p hx with h1 | h1
      · exact hS5.d2 k p hy h1
      · have := hy.1; have := hS5.lt; omega)
    have t511 : TouchC (own n) W5 W11 := t58.two t811 (fun k p _ hx => hx.elim (fun h => .inr (.inl h)) .inl) (fun k p _ hx => hx.elim (fun h => .inr (.inr h)) .inl)
    have t11 : TouchC (own n) w W11 := (TouchC.of_below HB5.out).trans t511 (fun _ _ _ h => h)
    -- the children
    obtain ⟨hY, hYf⟩ := HKID.out
    have hYl := hY.lt
    have hY11 : KidsIn W11 (h + 1) [(⟨G + 1, some ⟨eb, eo, none⟩, m, some ⟨kb, ko, none⟩, m + 1, c.es.take m, c.ks.take (m + 1)⟩ : Nd (Kid h)), (⟨G + 1 + 1, some ⟨eb, eo + (m + 1) * 2, none⟩, c.ec - (m + 1), some ⟨kb, ko + (m + 1), none⟩, c.cc - (m + 1), c.es.drop (m + 1), c.ks.drop (m + 1)⟩ : Nd (Kid h))] := hY.touch t511 (fun k p hx hy => by
      have hlo := own_lt HN.out.self hy
      rcases hYf k p hx with h1 | h1
      · exact HN.out.dis k p hy ⟨c, HCM.out, h1⟩
      · have := HG.out; omega)
    have hks' := HN.out.kids
    have hdA := HN.out.dis.symm
    rw [HP.out.1] at hks' hdA
    obtain ⟨hs1, hs2⟩ := KidsIn.swap12 (h := h + 1) (A := A) (B := B) (c := c) (l := (⟨G + 1, some ⟨eb, eo, none⟩, m, some ⟨kb, ko, none⟩, m + 1, c.es.take m, c.ks.take (m + 1)⟩ : Nd (Kid h))) (r := (⟨G + 1 + 1, some ⟨eb, eo + (m + 1) * 2, none⟩, c.ec - (m + 1), some ⟨kb, ko + (m + 1), none⟩, c.cc - (m + 1), c.es.drop (m + 1), c.ks.drop (m + 1)⟩ : Nd (Kid h))) hks' t11 hdA hY11 (fun k p hx => by
      rcases hYf k p hx with h1 | h1
      · exact .inl h1
      · refine .inr ?_; have := HG.out; omega)
    have hlen1 : (E ++ x :: F).length = M + 1 := by rw [← HM.out, HP.out.2.2.1]; simp; omega
    have hlen2 : (A ++ (⟨G + 1, some ⟨eb, eo, none⟩, m, some ⟨kb, ko, none⟩, m + 1, c.es.take m, c.ks.take (m + 1)⟩ : Nd (Kid h)) :: (⟨G + 1 + 1, some ⟨eb, eo + (m + 1) * 2, none⟩, c.ec - (m + 1), some ⟨kb, ko + (m + 1), none⟩, c.cc - (m + 1), c.es.drop (m + 1), c.ks.drop (m + 1)⟩ : Nd (Kid h)) :: B).length = N + 1 := by rw [← HNN.out, HP.out.1]; simp; omega
    have hKf : ∀ k p, footL (h + 1) (A ++ (⟨G + 1, some ⟨eb, eo, none⟩, m, some ⟨kb, ko, none⟩, m + 1, c.es.take m, c.ks.take (m + 1)⟩ : Nd (Kid h)) :: (⟨G + 1 + 1, some ⟨eb, eo + (m + 1) * 2, none⟩, c.ec - (m + 1), some ⟨kb, ko + (m + 1), none⟩, c.cc - (m + 1), c.es.drop (m + 1), c.ks.drop (m + 1)⟩ : Nd (Kid h)) :: B) k p → footL (h + 1) n.ks k p ∨ (w.heap.size ≤ k ∧ k < V) := fun k p hx => by
      rcases hs2 k p hx with h1 | h1
      · exact .inl (by rw [HP.out.1]; exact h1)
      · exact .inr ⟨h1.1, by have := hYl k p h1.2; omega⟩
    have hres := up_res (h := h + 1) HN.out a' c' a2 c2 (E ++ x :: F) (A ++ (⟨G + 1, some ⟨eb, eo, none⟩, m, some ⟨kb, ko, none⟩, m + 1, c.es.take m, c.ks.take (m + 1)⟩ : Nd (Kid h)) :: (⟨G + 1 + 1, some ⟨eb, eo + (m + 1) * 2, none⟩, c.ec - (m + 1), some ⟨kb, ko + (m + 1), none⟩, c.cc - (m + 1), c.es.drop (m + 1), c.ks.drop (m + 1)⟩ : Nd (Kid h)) :: B) V w7.heap.size (by have := HB5.out.size; omega) (by omega) hs1 hKf sub7 sub10 t11 (M + 1) (N + 1) hlen1 hlen2 g0 g1 er11 cr11
    have HEND : Hid (SplitS h w W11 n A B c E F m x) := Lib.hid ⟨_, (⟨G + 1, some ⟨eb, eo, none⟩, m, some ⟨kb, ko, none⟩, m + 1, c.es.take m, c.ks.take (m + 1)⟩ : Nd (Kid h)), (⟨G + 1 + 1, some ⟨eb, eo + (m + 1) * 2, none⟩, c.ec - (m + 1), some ⟨kb, ko + (m + 1), none⟩, c.cc - (m + 1), c.es.drop (m + 1), c.ks.drop (m + 1)⟩ : Nd (Kid h)), hres, rfl, rfl, rfl, rfl, rfl, rfl⟩
    have HW11 := Lib.hid hW11
    clear hres hKf hs1 hs2 hY11 hY hYf hYl hks' hdA t11 t511 cr11 er11 sub10 g0 g1 t1011 t811 hW11 hr10 hsub10 ht10 t810 ba8 t58 hr8 p0 cr8 sub7 hks r0 c1 q0 q1 f0 f1
    have r1' := r1
    go_wp2_with fail
    rw [HW11.out]
    go_end0
    exact ⟨rfl, HEND.out⟩

end Go.Proofs.Ytfikaccgpjiedaa

