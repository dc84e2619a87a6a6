/-
  slices.DeleteFunc, Delete, Clone at requests (stage 14).
-/
import Derived.Test.YtjjhmfpdbjflmaaPMem
import Derived.Deep.RegionLaw
namespace Go.Proofs.Ytjjhmfpdbjflmaa
open Go.RowKit Go.Shelf Go.Lib
set_option linter.unusedVariables false

/-- clear at requests. -/
theorem clearQ (g i n : Nat) (hn : 0 < n) (W : World) (hc : ∀ t, t < n * 2 → (W.cell? ⟨g, i * 2 + t, none⟩).isSome = true) (hf : ∀ t, t < n * 2 → W.frozen? ⟨g, i * 2 + t, none⟩ = false) :
    ∃ vs : List Value, vs.length = n * 2 ∧ ∀ ty cap, (Builtin.clear_ #[56] ty #[.slice (some ⟨g, i * 2, none⟩) n cap]).run Try.prog W = .ok (.tuple #[]) (W.setCells g (i * 2) vs) := by
  have zv : (zeroValue 65).run Try.prog W = .ok (.agg #[.int .i64 0, .int .u8 0]) W := by kernel_rfl
  have uv : Try.prog.underlying 56 = some (.slice 65) := Try.underlying56
  have hl : (Builtin.zeroCells (.agg #[.int .i64 0, .int .u8 0] : Value).cells n).toList.length = n * 2 := by
    simp [Builtin.zeroCells, Value.cells]
  have ho : ∀ v ∈ (Builtin.zeroCells (.agg #[.int .i64 0, .int .u8 0] : Value).cells n).toList, v.oneCell' = true := by
    intro v hv
    simp only [Builtin.zeroCells, Value.cells, Array.toList_map, Array.toList_range, List.mem_map, List.mem_range] at hv
    obtain ⟨t, _, rfl⟩ := hv
    have : t % 2 < 2 := Nat.mod_lt _ (by decide)
    generalize t % 2 = r at this
    match r, this with
    | 0, _ => rfl
    | 1, _ => rfl
    | r + 2, h => omega
  have hst := run_storeCells_cells (P := Try.prog) g (i * 2) _ 0 W (by rw [hl]; exact hc) (by rw [hl]; exact hf) ho
  refine ⟨_, hl, fun ty cap => ?_⟩
  obtain ⟨m, rfl⟩ : ∃ m, n = m + 1 := ⟨n - 1, by omega⟩
  simp only [Nat.add_zero] at hst
  simp [Builtin.clear_, run_underlying uv, zv, hst]

/-- What has been kept (of q) when j elements have been read. -/
structure KepP (q : Int × Int → Bool) (D : Nat → Int × Int) (n i j : Nat) (E : Nat → Int × Int) : Prop where
  ij : i < j
  jn : j ≤ n
  kept : (List.range i).map E = ((List.range j).map D).filter q
  rest : ∀ t, j ≤ t → E t = D t
theorem mapP_upd (E : Nat → Int × Int) (i : Nat) (v : Int × Int) : (List.range (i + 1)).map (updP E i v) = (List.range i).map E ++ [v] := by
  rw [List.range_succ, List.map_append, List.map_singleton]
  congr 1
  · refine List.map_congr_left fun t ht => ?_
    have : t < i := by simpa using ht
    unfold updP
    rw [if_neg (by omega)]
  · unfold updP
    rw [if_pos rfl]
theorem KepP.keep {q : Int × Int → Bool} {D : Nat → Int × Int} {n i j : Nat} {E : Nat → Int × Int} (h : KepP q D n i j E) (hj : j < n) (hk : q (D j) = true) : KepP q D n (i + 1) (j + 1) (updP E i (D j)) := by
  refine ⟨by have := h.ij; omega, hj, ?_, fun t ht => ?_⟩
  · rw [mapP_upd, h.kept, List.range_succ, List.map_append, List.filter_append]
    simp [hk]
  · unfold updP
    rw [if_neg (by have := h.ij; omega)]
    exact h.rest t (by omega)
theorem KepP.skip {q : Int × Int → Bool} {D : Nat → Int × Int} {n i j : Nat} {E : Nat → Int × Int} (h : KepP q D n i j E) (hj : j < n) (hk : q (D j) = false) : KepP q D n i (j + 1) E := by
  refine ⟨by have := h.ij; omega, hj, ?_, fun t ht => h.rest t (by omega)⟩
  rw [h.kept, List.range_succ, List.map_append, List.filter_append]
  simp [hk]
theorem KepP.start {q : Int × Int → Bool} {D : Nat → Int × Int} {n k : Nat} (hk : k < n) (h1 : q (D k) = false) (h2 : ∀ t, t < k → q (D t) = true) : KepP q D n k (k + 1) D := by
  refine ⟨by omega, hk, ?_, fun t _ => rfl⟩
  rw [List.range_succ, List.map_append, List.filter_append]
  have : ((List.range k).map D).filter q = (List.range k).map D := by
    rw [List.filter_eq_self]
    intro v hv
    simp only [List.mem_map, List.mem_range] at hv
    obtain ⟨t, ht, rfl⟩ := hv
    exact h2 t ht
  rw [this]
  simp [h1]

theorem rangeL {l : PL} {n : Nat} (hn : l.length = n) : (List.range n).map (fun j => l.getD j (0, 0)) = l := by
  subst hn
  apply List.ext_getElem
  · simp
  · intro i h1 h2
    simp at h1
    simp [h1]
theorem getD_of {l : PL} {i : Nat} {p : Int × Int} (h : l[i]? = some p) : l.getD i (0, 0) = p := by
  obtain ⟨hi, e⟩ := List.getElem?_eq_some_iff.1 h
  simp [hi, e]

set_option maxRecDepth 100000 in
set_option maxHeartbeats 4000000 in
theorem deleteF_in (b n c : Nat) (l : PL) (hln : l.length = n) (x : Int) (g : Nat) (w : World) (hn : n ≤ 100000) (h : RowQ w (.slice (some ⟨b, 0, none⟩) n c) l) (hg : Lit w g 3 [.int .i64 x]) (hne : b ≠ g) :
    Calls Try.prog 32 #[.slice (some ⟨b, 0, none⟩) n c, .func (.func 56) #[] #[.pointer (some ⟨g, 0, none⟩)]] w fun e w' => ∃ s', e = .returned s' ∧ RowQ w' s' (without l x) ∧ s'.ownBlock = some b ∧ Touch (fun k => k = b) w w' := by
  obtain ⟨r, hr⟩ : ∃ r, placeI l x = r := ⟨_, rfl⟩
  have HI := Lib.hid (indexQ_is _ l x g w (by omega) h hg r hr)
  have HR := Lib.hid (RowQ.rowP hln h)
  have HQ := Lib.hid h
  have HP := Lib.hid hg
  have HL := Lib.hid hln
  have HNE := Lib.hid hne
  obtain ⟨hnc, hcm⟩ := HR.out.cap
  have hpl : (r = -1 ∧ x ∉ fsts l) ∨ ∃ k0 : Nat, r = k0 ∧ k0 < n ∧ (l.getD k0 (0, 0)).1 = x ∧ ∀ j, j < k0 → (l.getD j (0, 0)).1 ≠ x := by
    rw [← hr]
    unfold placeI
    by_cases hx : x ∈ fsts l
    · right
      rw [if_pos hx]
      obtain ⟨h1, h2, h3⟩ := idx_in hx
      refine ⟨_, rfl, by omega, by rw [getD_of h2], fun j hj => ?_⟩
      obtain ⟨p, hp⟩ : ∃ p, l[j]? = some p := ⟨_, List.getElem?_eq_getElem (by omega)⟩
      rw [getD_of hp]
      exact h3 j hj p hp
    · left
      rw [if_neg hx]
      exact ⟨rfl, hx⟩
  obtain ⟨D, hD⟩ : ∃ D : Nat → Int × Int, (fun j => l.getD j (0, 0)) = D := ⟨_, rfl⟩
  have hDj : ∀ j, l.getD j (0, 0) = D j := fun j => by rw [← hD]
  simp only [hDj] at hpl
  rw [hD] at HR
  have hDL : (List.range n).map D = l := by rw [← hD]; exact rangeL hln
  have HDL := Lib.hid hDL
  clear h hg hr hln hne hDL hDj hD
  go_enter Try.func32, Try.ntmps32
  go_wp2_with fail
  refine HI.out.mono ?_
  rintro e w1 ⟨rfl, hb1⟩
  rcases hpl with ⟨rfl, hno⟩ | ⟨k0, rfl, hk0, hk1, hk2⟩
  · have HNO := Lib.hid hno
    have HB1 := Lib.hid hb1
    clear hno hb1 HI
    go_wp2_with fail
    go_ret
    refine ⟨_, rfl, ?_, rfl, Touch.of_below HB1.out⟩
    rw [without_none HNO.out]
    exact HQ.out.below HB1.out
  · have hneq : ((k0 : Int) == -1) = false := beq_eq_false_iff_ne.2 (by omega)
    have HK : Hid (KepP (fun p => !decide (p.1 = x)) D n k0 (k0 + 1) D) := Lib.hid (KepP.start hk0 (by simp [hk1]) (fun t ht => by simp [hk2 t ht]))
    have HB1 : Hid (Touch (fun k => k = b) w w1) := Lib.hid (Touch.of_below hb1)
    have HR1 := Lib.hid (HR.out.below hb1)
    clear hk1 hk2 hb1 HI
    go_wp2_with fail
    go_loopg [5, 6, 7] n (fun gg s5 s6 _ wr => ∃ (i j : Nat) (E : Nat → Int × Int), s5 = .int .i64 i ∧ s6 = .int .i64 j ∧ n - j ≤ gg ∧ Hid (KepP (fun p => !decide (p.1 = x)) D n i j E) ∧ Hid (RowP wr b n c E) ∧ Hid (Touch (fun k => k = b) w wr))
    case atStart => exact ⟨k0, k0 + 1, D, rfl, by go_num, by omega, HK, HR1, HB1⟩
    case round =>
      obtain ⟨i, j, E, rfl, rfl, hgg, KI, RE, BE⟩ := hrel
      clear HK HR1 HB1 hneq hk0
      have hij := KI.out.ij
      have hjn := KI.out.jn
      by_cases hlt : j < n
      · have hltz : (j : Int) < (n : Int) := by omega
        obtain ⟨v, hv⟩ : ∃ v, D j = v := ⟨_, rfl⟩
        have hE : E j = v := by rw [KI.out.rest j (Nat.le_refl _), hv]
        obtain ⟨c0, c1, -, -⟩ := RE.out.at hlt
        rw [hE] at c0 c1
        have hbl := RE.out.lt
        have hgl : Lit wr g 3 [.int .i64 x] := HP.out.stay (BE.out.stay (G := fun k => k ≠ b) (fun k hk e => hk e)) (fun e => HNE.out e.symm)
        have hnew := Lit.new wr 65 (rqC v)
        have hal := Below.allocs wr (.cells (rqC v).toArray 65)
        have hgl2 := hgl.below hal
        obtain ⟨q, hq⟩ : ∃ q, (v.1 == x) = q := ⟨_, rfl⟩
        have hby := by1_is v x g q hq _ hgl2
        have HV := Lib.hid hv
        have HQQ := Lib.hid hq
        clear hv hE hgl hgl2 hq
        obtain ⟨vy, vm⟩ := v
        simp only [rqC] at hnew hal hby
        have HBY := Lib.hid hby
        have HAL := Lib.hid hal
        have HNEW := Lib.hid hnew
        clear hby hal hnew
        go_wp2_with fail
        refine HBY.out.mono ?_
        rintro e w2 ⟨rfl, hb2⟩
        have HA := Lib.hid (below_tr HAL.out hb2)
        have HN2 := Lib.hid (HNEW.out.below hb2)
        clear HBY HAL HNEW hb2
        have n0 := HN2.out.cell (o := 0) rfl
        have n1 := HN2.out.cell (o := 1) rfl
        have nl := HN2.out.lt
        cases q with
        | true =>
          have hqf : (!decide (vy = x)) = false := by simpa using HQQ.out
          go_wp2_with fail
          go_roundg (n - (j + 1))
          case measure => omega
          case rel => exact ⟨i, j + 1, E, rfl, by go_num, Nat.le_refl _, Lib.hid (KI.out.skip hlt (by rw [HV.out]; exact hqf)), Lib.hid (RE.out.below HA.out), Lib.hid (BE.out.trans (Touch.of_below HA.out) (fun _ _ h => h))⟩
        | false =>
          have hqf : (!decide (vy = x)) = true := by simpa using HQQ.out
          have hr2 := RE.out.below HA.out
          obtain ⟨d0, d1, f0, f1⟩ := hr2.at (i := i) (by omega)
          have dl := hr2.lt
          have hiz : (i : Int) < (n : Int) := by omega
          have HR2 := Lib.hid hr2
          have HQF := Lib.hid hqf
          clear hr2 hqf
          go_wp2_with fail
          go_roundg (n - (j + 1))
          case measure => omega
          case rel =>
            refine ⟨i + 1, j + 1, updP E i (vy, vm), by go_num, by go_num, Nat.le_refl _, Lib.hid ?_, Lib.hid (HR2.out.put (by omega) (vy, vm)), Lib.hid ((BE.out.trans (Touch.of_below HA.out) (fun _ _ h => h)).trans (putP_touch w2 b i (vy, vm)) (fun _ _ h => h))⟩
            have := KI.out.keep hlt (by rw [HV.out]; exact HQF.out)
            rwa [HV.out] at this
      · have hjn' : j = n := by omega
        have hltz : ¬ (n : Int) < (n : Int) := by omega
        subst hjn'
        obtain ⟨vs, hvl, hcl⟩ := clearQ b i (j - i) (by omega) wr
          (fun t ht => by
            obtain ⟨h0, h1, -, -⟩ := RE.out.at (i := i + t / 2) (by omega)
            have e : i * 2 + t = (i + t / 2) * 2 + t % 2 := by omega
            rw [e]
            rcases (show t % 2 = 0 ∨ t % 2 = 1 by omega) with h | h <;> rw [h]
            · rw [Nat.add_zero, h0]; rfl
            · rw [h1]; rfl)
          (fun t ht => by
            obtain ⟨-, -, h0, h1⟩ := RE.out.at (i := i + t / 2) (by omega)
            have e : i * 2 + t = (i + t / 2) * 2 + t % 2 := by omega
            rw [e]
            rcases (show t % 2 = 0 ∨ t % 2 = 1 by omega) with h | h <;> rw [h]
            · rw [Nat.add_zero, h0]
            · rw [h1])
        have hiz : (i : Int) < (j : Int) := by omega
        have HVL := Lib.hid hvl
        clear hvl
        go_wp2
        go_ret
        obtain ⟨z1, z2⟩ := RowF.outs vs (i * 2) (Nat.le_refl _) (RE.out.cut (k := i) (by omega))
        refine ⟨_, rfl, ?_, rfl, BE.out.trans z2 (fun _ _ h => h)⟩
        have hk := KI.out.kept
        rw [HDL.out] at hk
        exact (RowP.rowQ z1 hk).1

/-- DeleteFunc, by somebody. -/
theorem deleteF_is (s : Value) (l : PL) (x : Int) (g : Nat) (w : World) (hn : l.length ≤ 100000) (h : RowQ w s l) (hg : Lit w g 3 [.int .i64 x]) (hne : s.ownBlock ≠ some g) :
    Calls Try.prog 32 #[s, .func (.func 56) #[] #[.pointer (some ⟨g, 0, none⟩)]] w fun e w' => ∃ s', e = .returned s' ∧ RowQ w' s' (without l x) ∧ s'.ownBlock = s.ownBlock ∧ Touch (fun k => s.ownBlock = some k) w w' := by
  obtain ⟨⟨xs, h1, h2⟩, h3⟩ := id h
  rcases h1.2 with ⟨rfl, h0⟩ | ⟨b, c, cur, rfl, _⟩
  · have e0 : l = [] := List.length_eq_zero_iff.1 h0
    subst e0
    have hI := indexQ_is (.slice none 0 0) [] x g w (by simp) h hg (-1) rfl
    have HI := Lib.hid hI
    have HR := Lib.hid h
    clear hI h h1 h2 h3 hg hne
    go_enter Try.func32, Try.ntmps32
    go_wp2_with fail
    refine HI.out.mono ?_
    rintro e w1 ⟨rfl, hb1⟩
    have HB1 := Lib.hid hb1
    clear HI hb1
    go_wp2_with fail
    go_ret
    exact ⟨_, rfl, HR.out.below HB1.out, rfl, Touch.of_below HB1.out⟩
  · refine (deleteF_in b l.length c l rfl x g w hn h hg (fun e => hne (by rw [e]; rfl))).mono ?_
    rintro e w' ⟨s', rfl, q1, q2, q3⟩
    exact ⟨s', rfl, q1, q2, q3.mono (fun k hk => by rw [hk]; rfl)⟩

end Go.Proofs.Ytjjhmfpdbjflmaa
