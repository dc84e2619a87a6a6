/-
  The law RowFits, walked.
-/
import Derived.Test.YtoglaibcmfjclaaDoorWApart
import Derived.Test.YtoglaibcmfjclaaDoorWFits
namespace Go.Proofs.YtoglaibcmfjclaaDoor
open Go.RowKit

/-- One value of a row, as a row. -/
theorem sub_row {W : World} {a : Option Addr} {c : Nat} {l : List Val} (h : SlL W a c l) {i : Nat} {x : Val} (hx : l[i]? = some x) : ∀ b o, a = some ⟨b, o, none⟩ → SlL W (some ⟨b, o + i * 4, none⟩) (c - i) [x] := by
  rintro b o rfl
  have hi : i < l.length := (List.getElem?_eq_some_iff.1 hx).1
  obtain ⟨b', o', e, ha⟩ := at_l h hx
  cases e
  refine ⟨by have := h.lc; simp; omega, by have := h.cm; omega, fun _ => ⟨b, o + i * 4, rfl, fun j y hy => ?_⟩, fun y hy => by simp at hy; rw [hy]; exact get_wf h.wf hx⟩
  have hj : j < 1 := (List.getElem?_eq_some_iff.1 hy).1
  obtain rfl : j = 0 := by omega
  simp at hy
  subst hy
  simpa using ha

theorem sub_cols {W : World} {a : Option Addr} {c : Nat} {l : List Col} (h : SlC W a c l) {i : Nat} {x : Col} (hx : l[i]? = some x) : ∀ b o, a = some ⟨b, o, none⟩ → SlC W (some ⟨b, o + i * 6, none⟩) (c - i) [x] := by
  rintro b o rfl
  have hi : i < l.length := (List.getElem?_eq_some_iff.1 hx).1
  obtain ⟨b', o', e, ha⟩ := at_c h hx
  cases e
  refine ⟨by have := h.lc; simp; omega, by have := h.cm; omega, fun _ => ⟨b, o + i * 6, rfl, fun j y hy => ?_⟩⟩
  have hj : j < 1 := (List.getElem?_eq_some_iff.1 hy).1
  obtain rfl : j = 0 := by omega
  simp at hy
  subst hy
  simpa using ha

theorem fitL_snoc : ∀ (l : List Val) (c : List Int) (x : Val) (k : Int), l.length = c.length → fitL (l ++ [x]) (c ++ [k]) = (fitL l c && fitV x k)
  | [], [], x, k, _ => by simp [fitL]
  | [], _ :: _, _, _, h => by cases h
  | _ :: _, [], _, _, h => by cases h
  | y :: l, d :: c, x, k, h => by
    rw [List.cons_append, List.cons_append, fitL, fitL, fitL_snoc l c x k (by simpa using h), Bool.and_assoc]

theorem fit_step {l : List Val} {cs : List Col} {i : Nat} {x : Val} {y : Col} {m : Bool} (h : fitL (l.take i) (tys (cs.take i)) = m) (hx : l[i]? = some x) (hy : cs[i]? = some y) : fitL (l.take (i + 1)) (tys (cs.take (i + 1))) = (m && fitV x y.ty) := by
  have h1 := (List.getElem?_eq_some_iff.1 hx).1
  have h2 := (List.getElem?_eq_some_iff.1 hy).1
  rw [take_snoc hx, List.take_add_one, hy]
  show fitL (l.take i ++ [x]) (tys (cs.take i ++ [y])) = _
  rw [show tys (cs.take i ++ [y]) = tys (cs.take i) ++ [y.ty] by simp [tys], fitL_snoc _ _ _ _ (by rw [tys_len, List.length_take, List.length_take]; omega), h]

theorem fit_take : ∀ (l : List Val) (cs : List Col) (i : Nat), ¬ (i < l.length ∧ i < cs.length) → fitL (l.take i) (tys (cs.take i)) = fitL l (tys cs)
  | [], cs, i, _ => by simp [fitL]
  | v :: l, [], i, _ => by cases i <;> simp [fitL, tys]
  | v :: l, c :: cs, 0, h => absurd ⟨by simp, by simp⟩ h
  | v :: l, c :: cs, i + 1, h => by
    have := fit_take l cs i (by simpa using h)
    show (fitV v c.ty && fitL (l.take i) (tys (cs.take i))) = (fitV v c.ty && fitL l (tys cs))
    rw [this]

set_option maxRecDepth 100000 in
set_option maxHeartbeats 8000000 in
theorem lfits_big (ax : Option Addr) (cx nx : Nat) (lx : List Val) (a' : Option Addr) (c' k : Nat) (cs : List Col) (hnx : lx.length = nx) (hk : cs.length = k) (hs : 1000 < k) (w : World) (hg : Good w) (hx : SlL w ax cx lx) (hC : SlC w a' c' cs) :
    Calls Tryd.prog 9 #[.slice ax nx cx, .slice a' k c'] w fun e w' => e = .returned (.bool true) ∧ Below w.heap.size w w' := by
  have HC := Lib.hid hC
  have HK := Lib.hid hk
  clear hC hk
  have hsz : 1000 < (k : Int) := by omega
  have HB0 : Hid (Below w.heap.size w w) := Lib.hid (Below.refl _ _)
  have HG := Lib.hid hg
  have HAx := Lib.hid hx
  have HNx := Lib.hid hnx
  clear hg hx hnx
  go_enter Tryd.func9, Tryd.ntmps9
  have hcon := fun (W : World) (hB : Below w.heap.size w W) => works_is W (HG.out.below hB)
  go_wp2_with fail
  refine (hcon _ HB0.out).mono ?_
  rintro e w1 ⟨rfl, hb1⟩
  have HB1 : Hid (Below w.heap.size w w1) := Lib.hid (below_tr HB0.out hb1)
  clear hcon hb1
  obtain ⟨zx, hzx⟩ : ∃ z, largeB lx = z := ⟨_, rfl⟩
  have HZx := Lib.hid hzx
  have hcon := fun (W : World) (hB : Below w.heap.size w W) => large_is ax cx nx lx zx HNx.out HZx.out W (HAx.out.below hB)
  clear hzx
  go_wp2_with fail
  refine (hcon _ HB1.out).mono ?_
  rintro e w2 ⟨rfl, hb2⟩
  have HB2 : Hid (Below w.heap.size w w2) := Lib.hid (below_tr HB1.out hb2)
  clear hcon hb2
  cases zx
  case' true =>
    have hcon := fun (W : World) (hB : Below w.heap.size w W) => works_is W (HG.out.below hB)
    go_wp2_with fail
    refine (hcon _ HB2.out).mono ?_
    rintro e w3 ⟨rfl, hb3⟩
    have HB3 : Hid (Below w.heap.size w w3) := Lib.hid (below_tr HB2.out hb3)
    clear hcon hb3
    go_wp2_with fail
    go_ret
    exact ⟨rfl, HB3.out⟩
  have hcon := fun (W : World) (hB : Below w.heap.size w W) => works_is W (HG.out.below hB)
  go_wp2_with fail
  refine (hcon _ HB2.out).mono ?_
  rintro e w3 ⟨rfl, hb3⟩
  have HB3 : Hid (Below w.heap.size w w3) := Lib.hid (below_tr HB2.out hb3)
  clear hcon hb3
  go_wp2_with fail
  go_ret
  exact ⟨rfl, HB3.out⟩

set_option maxRecDepth 100000 in
set_option maxHeartbeats 8000000 in
theorem lfits_small (ax : Option Addr) (cx nx : Nat) (lx : List Val) (a' : Option Addr) (c' k : Nat) (cs : List Col) (hnx : lx.length = nx) (hk : cs.length = k) (hs : k ≤ 1000) (w : World) (hg : Good w) (hx : SlL w ax cx lx) (hC : SlC w a' c' cs) :
    Calls Tryd.prog 9 #[.slice ax nx cx, .slice a' k c'] w fun e w' => e = .returned (.bool true) ∧ Below w.heap.size w w' := by
  have HC := Lib.hid hC
  have HK := Lib.hid hk
  clear hC hk
  have hsz : ¬ 1000 < (k : Int) := by omega
  have HB0 : Hid (Below w.heap.size w w) := Lib.hid (Below.refl _ _)
  have HG := Lib.hid hg
  have HAx := Lib.hid hx
  have HNx := Lib.hid hnx
  clear hg hx hnx
  go_enter Tryd.func9, Tryd.ntmps9
  have hcon := fun (W : World) (hB : Below w.heap.size w W) => works_is W (HG.out.below hB)
  go_wp2_with fail
  refine (hcon _ HB0.out).mono ?_
  rintro e w1 ⟨rfl, hb1⟩
  have HB1 : Hid (Below w.heap.size w w1) := Lib.hid (below_tr HB0.out hb1)
  clear hcon hb1
  obtain ⟨zx, hzx⟩ : ∃ z, largeB lx = z := ⟨_, rfl⟩
  have HZx := Lib.hid hzx
  have hcon := fun (W : World) (hB : Below w.heap.size w W) => large_is ax cx nx lx zx HNx.out HZx.out W (HAx.out.below hB)
  clear hzx
  go_wp2_with fail
  refine (hcon _ HB1.out).mono ?_
  rintro e w2 ⟨rfl, hb2⟩
  have HB2 : Hid (Below w.heap.size w w2) := Lib.hid (below_tr HB1.out hb2)
  clear hcon hb2
  cases zx
  case' true =>
    have hcon := fun (W : World) (hB : Below w.heap.size w W) => works_is W (HG.out.below hB)
    go_wp2_with fail
    refine (hcon _ HB2.out).mono ?_
    rintro e w3 ⟨rfl, hb3⟩
    have HB3 : Hid (Below w.heap.size w w3) := Lib.hid (below_tr HB2.out hb3)
    clear hcon hb3
    go_wp2_with fail
    go_ret
    exact ⟨rfl, HB3.out⟩
  have hbn : nx ≤ 2000 := by have := small_jt HZx.out HAx.out.wf; have := HNx.out; omega
  have hlc : nx ≤ cx := by rw [← HNx.out]; exact HAx.out.lc
  have hlk : k ≤ c' := by rw [← HK.out]; exact HC.out.lc
  go_wp2_with fail
  go_loopg [5, 6] nx (fun gg s5 s6 wr => ∃ (i : Nat) (m : Bool), s6 = .int .i64 i ∧ s5 = .bool m ∧ i ≤ nx ∧ i ≤ k ∧ nx - i ≤ gg ∧ Hid (fitL (lx.take i) (tys (cs.take i)) = m) ∧ Hid (Below w.heap.size w wr))
  case atStart => exact ⟨0, true, rfl, rfl, Nat.zero_le _, Nat.zero_le _, by omega, Lib.hid rfl, HB2⟩
  case round =>
    obtain ⟨i, m, rfl, rfl, hin, hik, hgg, HM, BW⟩ := hrel
    by_cases hlt : i < nx ∧ i < k
    · obtain ⟨hlt, hlk2⟩ := hlt
      have hltz : (i : Int) < (nx : Int) := by omega
      have hlkz : (i : Int) < (k : Int) := by omega
      have z1 : ¬ nx ≤ i := by omega
      have z2 : ¬ k ≤ i := by omega
      have hcxz : (nx : Int) ≤ (cx : Int) := by omega
      have hckz : (k : Int) ≤ (c' : Int) := by omega
      have hew : wrap64 ((i : Int) + 1) = (i : Int) + 1 := by unfold wrap64; omega
      have hew2 : IntKind.i64.wrap ((i : Int) + 1) = (i : Int) + 1 := by rw [IntKind.wrap_i64]; omega
      have hew4 : ((i : Int) + 1).toNat = i + 1 := by omega
      have hcx1 : 0 ≤ (i : Int) + 1 ∧ (i : Int) + 1 ≤ (cx : Int) := by omega
      have hck1 : 0 ≤ (i : Int) + 1 ∧ (i : Int) + 1 ≤ (c' : Int) := by omega
      have hcxi : ¬ cx = i := by omega
      have hcki : ¬ c' = i := by omega
      obtain ⟨x, hx⟩ := get_is (l := lx) (i := i) (by rw [HNx.out]; exact hlt)
      obtain ⟨y, hy⟩ := getc_is (l := cs) (i := i) (by rw [HK.out]; exact hlk2)
      have hs1 := sub_row (HAx.out.below BW.out) hx
      have hs2 := sub_cols (HC.out.below BW.out) hy
      obtain ⟨b, o, rfl, ha⟩ := at_l HAx.out hx
      obtain ⟨b', o', rfl, hb⟩ := at_c HC.out hy
      have hS1 := hs1 b o rfl
      have hS2 := hs2 b' o' rfl
      have HX := Lib.hid (ha.below BW.out)
      have HY := Lib.hid (hb.below BW.out)
      have HGX := Lib.hid hx
      have HGY := Lib.hid hy
      obtain ⟨q, hq⟩ : ∃ q, fitV x y.ty = q := ⟨_, rfl⟩
      have HQ := Lib.hid hq
      have hcon2 := fun W => fits_v x y.ty q hq W
      cases q
      · have hcon := fun W (hW : Below wr.heap.size wr W) => fitr_is _ _ (cx - i) (c' - i) 1 1 [x] [y] 60 rfl rfl (by show fitE [x] [y.ty] = 60; unfold fitE; simp [fitL, hq]) W (hS1.below hW) (hS2.below hW)
        clear hs1 hs2 ha hb hx hy hS1 hS2 hq
        go_wp2_with fail
        have hdr := below_drw wr
        try simp only [List.append_eq, List.cons_append, List.nil_append]
        refine RX.wp_region_plan (fun w w' => Below w.heap.size w w') [.it (.slice (some ⟨b, o, none⟩) nx cx), .it (.int .i64 (i : Int)), .it (.int .i64 (i : Int)), .it (.int .i64 ((i : Int) + 1)), .it (.slice (some ⟨b, o + i * 4, none⟩) 1 (cx - i)), .it (.slice (some ⟨b', o', none⟩) k c'), .it (.int .i64 (i : Int)), .it (.int .i64 (i : Int)), .it (.int .i64 ((i : Int) + 1)), .it (.slice (some ⟨b', o' + i * 6, none⟩) 1 (c' - i)), .it (.int .i64 60), .it (.int .i64 60)] (by kernel_rfl) (by kernel_rfl) (fun _ => Below.refl _ _) (fun _ _ _ => below_tr) ?_
        refine RX.seqP_value (fun _ => Below.refl _ _) _ (by first | rfl | simp) (fun w' hw' hctx => by (go_simp); (try first | with_reducible rfl | simp)) ?_
        simp only [Act.put, List.setIfInBounds_toArray, List.set_cons_zero, List.set_cons_succ]
        refine RX.seqP_value (fun _ => Below.refl _ _) _ (by first | rfl | simp) (fun w' hw' hctx => by (go_simp); (try first | with_reducible rfl | simp)) ?_
        simp only [Act.put, List.setIfInBounds_toArray, List.set_cons_zero, List.set_cons_succ]
        refine RX.seqP_value (fun _ => Below.refl _ _) _ (by first | rfl | simp) (fun w' hw' hctx => by (go_simp); (try first | with_reducible rfl | simp)) ?_
        simp only [Act.put, List.setIfInBounds_toArray, List.set_cons_zero, List.set_cons_succ]
        refine RX.seqP_value (fun _ => Below.refl _ _) _ (by first | rfl | simp) (fun w' hw' hctx => by (go_simp); (try first | with_reducible rfl | simp)) ?_
        simp only [Act.put, List.setIfInBounds_toArray, List.set_cons_zero, List.set_cons_succ]
        refine RX.seqP_value (fun _ => Below.refl _ _) _ (by first | rfl | simp) (fun w' hw' hctx => by (go_simp); (try first | with_reducible rfl | simp)) ?_
        simp only [Act.put, List.setIfInBounds_toArray, List.set_cons_zero, List.set_cons_succ]
        refine RX.seqP_value (fun _ => Below.refl _ _) _ (by first | rfl | simp) (fun w' hw' hctx => by (go_simp); (try first | with_reducible rfl | simp)) ?_
        simp only [Act.put, List.setIfInBounds_toArray, List.set_cons_zero, List.set_cons_succ]
        refine RX.seqP_value (fun _ => Below.refl _ _) _ (by first | rfl | simp) (fun w' hw' hctx => by (go_simp); (try first | with_reducible rfl | simp)) ?_
        simp only [Act.put, List.setIfInBounds_toArray, List.set_cons_zero, List.set_cons_succ]
        refine RX.seqP_value (fun _ => Below.refl _ _) _ (by first | rfl | simp) (fun w' hw' hctx => by (go_simp); (try first | with_reducible rfl | simp)) ?_
        simp only [Act.put, List.setIfInBounds_toArray, List.set_cons_zero, List.set_cons_succ]
        refine RX.seqP_value (fun _ => Below.refl _ _) _ (by first | rfl | simp) (fun w' hw' hctx => by (go_simp); (try first | with_reducible rfl | simp)) ?_
        simp only [Act.put, List.setIfInBounds_toArray, List.set_cons_zero, List.set_cons_succ]
        refine RX.seqP_value (fun _ => Below.refl _ _) _ (by first | rfl | simp) (fun w' hw' hctx => by (go_simp); (try first | with_reducible rfl | simp)) ?_
        simp only [Act.put, List.setIfInBounds_toArray, List.set_cons_zero, List.set_cons_succ]
        refine RX.seqP_call (16) #[.slice (some ⟨b, o + i * 4, none⟩) 1 (cx - i), .slice (some ⟨b', o' + i * 6, none⟩) 1 (c' - i)] (.int .i64 60) (by first | rfl | simp) (fun w' hw' hctx => ?_) (fun w' hw' hctx => hcon w' (below_tr hdr hw')) ?_
        · go_simp
        simp only [Act.put, List.setIfInBounds_toArray, List.set_cons_zero, List.set_cons_succ]
        refine RX.seqP_value (fun _ => Below.refl _ _) _ (by first | rfl | simp) (fun w' hw' hctx => by (go_simp); (try first | with_reducible rfl | simp)) ?_
        simp only [Act.put, List.setIfInBounds_toArray, List.set_cons_zero, List.set_cons_succ]
        refine RX.seqP_nil (fun v1 hR hctx _ => ?_)
        have hv1 := below_tr hdr hR
        clear hctx hR
        have HX1 := Lib.hid (HX.out.below hv1)
        have HY1 := Lib.hid (HY.out.below hv1)
        have HV1 := Lib.hid hv1
        clear hcon hv1
        go_wp2_with fail
        have hdr := below_drw v1
        try simp only [List.append_eq, List.cons_append, List.nil_append]
        refine RX.wp_region_plan (fun w w' => Below w.heap.size w w') [.it (.int .i64 60), .it (.bool false), .it (.slice (some ⟨b, o, none⟩) nx cx), .it (.int .i64 (i : Int)), .it (.pointer (some ⟨b, o + i * 4, none⟩)), .it (.agg #[.int .u8 x.k, .int .i64 x.n, .int .i64 x.u, .string x.t]), .it (.slice (some ⟨b', o', none⟩) k c'), .it (.int .i64 (i : Int)), .it (.pointer (some ⟨b', o' + i * 6, none⟩)), .it (.pointer (some ⟨b', o' + i * 6 + 1, none⟩)), .it (.int .u8 y.ty), .it (.bool false), .it (.bool false), .it (.bool false), .it (.int .i64 60), .it (.bool true), .it (.bool true), .it (.int .i64 60), .it (.bool false), .it (.bool false), .it (.bool false)] (by kernel_rfl) (by kernel_rfl) (fun _ => Below.refl _ _) (fun _ _ _ => below_tr) ?_
        refine RX.seqP_value (fun _ => Below.refl _ _) _ (by first | rfl | simp) (fun w' hw' hctx => by (go_simp); (try first | with_reducible rfl | simp)) ?_
        simp only [Act.put, List.setIfInBounds_toArray, List.set_cons_zero, List.set_cons_succ]
        refine RX.seqP_value (fun _ => Below.refl _ _) _ (by first | rfl | simp) (fun w' hw' hctx => by (go_simp); (try first | with_reducible rfl | simp)) ?_
        simp only [Act.put, List.setIfInBounds_toArray, List.set_cons_zero, List.set_cons_succ]
        refine RX.seqP_value (fun _ => Below.refl _ _) _ (by first | rfl | simp) (fun w' hw' hctx => by (go_simp); (try first | with_reducible rfl | simp)) ?_
        simp only [Act.put, List.setIfInBounds_toArray, List.set_cons_zero, List.set_cons_succ]
        refine RX.seqP_value (fun _ => Below.refl _ _) _ (by first | rfl | simp) (fun w' hw' hctx => by (go_simp); (try first | with_reducible rfl | simp)) ?_
        simp only [Act.put, List.setIfInBounds_toArray, List.set_cons_zero, List.set_cons_succ]
        refine RX.seqP_value (fun _ => Below.refl _ _) _ (by first | rfl | simp) (fun w' hw' hctx => by (go_simp); (try first | with_reducible rfl | simp)) ?_
        simp only [Act.put, List.setIfInBounds_toArray, List.set_cons_zero, List.set_cons_succ]
        refine RX.seqP_value (fun _ => Below.refl _ _) _ (by first | rfl | simp) (fun w' hw' hctx => ?_) ?_
        · obtain ⟨c0, c1, c2, c3, c4⟩ := HX1.out.below (below_tr hdr hw')
          go_simp
          try first | with_reducible rfl | simp
        simp only [Act.put, List.setIfInBounds_toArray, List.set_cons_zero, List.set_cons_succ]
        refine RX.seqP_value (fun _ => Below.refl _ _) _ (by first | rfl | simp) (fun w' hw' hctx => by (go_simp); (try first | with_reducible rfl | simp)) ?_
        simp only [Act.put, List.setIfInBounds_toArray, List.set_cons_zero, List.set_cons_succ]
        refine RX.seqP_value (fun _ => Below.refl _ _) _ (by first | rfl | simp) (fun w' hw' hctx => by (go_simp); (try first | with_reducible rfl | simp)) ?_
        simp only [Act.put, List.setIfInBounds_toArray, List.set_cons_zero, List.set_cons_succ]
        refine RX.seqP_value (fun _ => Below.refl _ _) _ (by first | rfl | simp) (fun w' hw' hctx => by (go_simp); (try first | with_reducible rfl | simp)) ?_
        simp only [Act.put, List.setIfInBounds_toArray, List.set_cons_zero, List.set_cons_succ]
        refine RX.seqP_value (fun _ => Below.refl _ _) _ (by first | rfl | simp) (fun w' hw' hctx => by (go_simp); (try first | with_reducible rfl | simp)) ?_
        simp only [Act.put, List.setIfInBounds_toArray, List.set_cons_zero, List.set_cons_succ]
        refine RX.seqP_value (fun _ => Below.refl _ _) _ (by first | rfl | simp) (fun w' hw' hctx => ?_) ?_
        · obtain ⟨c0, c1, c2, c3, c4, c5, c6⟩ := HY1.out.below (below_tr hdr hw')
          go_simp
          try first | with_reducible rfl | simp
        simp only [Act.put, List.setIfInBounds_toArray, List.set_cons_zero, List.set_cons_succ]
        refine RX.seqP_call (28) #[.agg #[.int .u8 x.k, .int .i64 x.n, .int .i64 x.u, .string x.t], .int .u8 y.ty] (.bool false) (by first | rfl | simp) (fun w' hw' hctx => ?_) (fun w' hw' hctx => hcon2 w') ?_
        · go_simp
        simp only [Act.put, List.setIfInBounds_toArray, List.set_cons_zero, List.set_cons_succ]
        refine RX.seqP_value (fun _ => Below.refl _ _) _ (by first | rfl | simp) (fun w' hw' hctx => by (go_simp); (try first | with_reducible rfl | simp)) ?_
        simp only [Act.put, List.setIfInBounds_toArray, List.set_cons_zero, List.set_cons_succ]
        refine RX.seqP_value (fun _ => Below.refl _ _) _ (by first | rfl | simp) (fun w' hw' hctx => by (go_simp); (try first | with_reducible rfl | simp)) ?_
        simp only [Act.put, List.setIfInBounds_toArray, List.set_cons_zero, List.set_cons_succ]
        refine RX.seqP_value (fun _ => Below.refl _ _) _ (by first | rfl | simp) (fun w' hw' hctx => by (go_simp); (try first | with_reducible rfl | simp)) ?_
        simp only [Act.put, List.setIfInBounds_toArray, List.set_cons_zero, List.set_cons_succ]
        refine RX.seqP_value (fun _ => Below.refl _ _) _ (by first | rfl | simp) (fun w' hw' hctx => by (go_simp); (try first | with_reducible rfl | simp)) ?_
        simp only [Act.put, List.setIfInBounds_toArray, List.set_cons_zero, List.set_cons_succ]
        refine RX.seqP_value (fun _ => Below.refl _ _) _ (by first | rfl | simp) (fun w' hw' hctx => by (go_simp); (try first | with_reducible rfl | simp)) ?_
        simp only [Act.put, List.setIfInBounds_toArray, List.set_cons_zero, List.set_cons_succ]
        refine RX.seqP_value (fun _ => Below.refl _ _) _ (by first | rfl | simp) (fun w' hw' hctx => by (go_simp); (try first | with_reducible rfl | simp)) ?_
        simp only [Act.put, List.setIfInBounds_toArray, List.set_cons_zero, List.set_cons_succ]
        refine RX.seqP_value (fun _ => Below.refl _ _) _ (by first | rfl | simp) (fun w' hw' hctx => by (go_simp); (try first | with_reducible rfl | simp)) ?_
        simp only [Act.put, List.setIfInBounds_toArray, List.set_cons_zero, List.set_cons_succ]
        refine RX.seqP_value (fun _ => Below.refl _ _) _ (by first | rfl | simp) (fun w' hw' hctx => by (go_simp); (try first | with_reducible rfl | simp)) ?_
        simp only [Act.put, List.setIfInBounds_toArray, List.set_cons_zero, List.set_cons_succ]
        refine RX.seqP_value (fun _ => Below.refl _ _) _ (by first | rfl | simp) (fun w' hw' hctx => by (go_simp); (try first | with_reducible rfl | simp)) ?_
        simp only [Act.put, List.setIfInBounds_toArray, List.set_cons_zero, List.set_cons_succ]
        refine RX.seqP_nil (fun v2 hR hctx _ => ?_)
        have hv2 := below_tr hdr hR
        clear hctx hR
        have HW2 := Lib.hid (BW.out.trans ((below_tr HV1.out hv2).mono BW.out.size))
        clear hcon2 hv2
        cases m
        · go_wp2_with fail
          go_roundg (nx - (i + 1))
          case measure => omega
          case rel => exact ⟨i + 1, false, by go_num, rfl, by omega, by omega, Nat.le_refl _, Lib.hid (by rw [fit_step HM.out HGX.out HGY.out]; rfl), HW2⟩
        · go_wp2_with fail
          go_roundg (nx - (i + 1))
          case measure => omega
          case rel => exact ⟨i + 1, false, by go_num, rfl, by omega, by omega, Nat.le_refl _, Lib.hid (by rw [fit_step HM.out HGX.out HGY.out, HQ.out]; rfl), HW2⟩
      · have hcon := fun W (hW : Below wr.heap.size wr W) => fitr_is _ _ (cx - i) (c' - i) 1 1 [x] [y] 0 rfl rfl (by show fitE [x] [y.ty] = 0; unfold fitE; simp [fitL, hq]) W (hS1.below hW) (hS2.below hW)
        clear hs1 hs2 ha hb hx hy hS1 hS2 hq
        go_wp2_with fail
        have hdr := below_drw wr
        try simp only [List.append_eq, List.cons_append, List.nil_append]
        refine RX.wp_region_plan (fun w w' => Below w.heap.size w w') [.it (.slice (some ⟨b, o, none⟩) nx cx), .it (.int .i64 (i : Int)), .it (.int .i64 (i : Int)), .it (.int .i64 ((i : Int) + 1)), .it (.slice (some ⟨b, o + i * 4, none⟩) 1 (cx - i)), .it (.slice (some ⟨b', o', none⟩) k c'), .it (.int .i64 (i : Int)), .it (.int .i64 (i : Int)), .it (.int .i64 ((i : Int) + 1)), .it (.slice (some ⟨b', o' + i * 6, none⟩) 1 (c' - i)), .it (.int .i64 0), .it (.int .i64 0)] (by kernel_rfl) (by kernel_rfl) (fun _ => Below.refl _ _) (fun _ _ _ => below_tr) ?_
        refine RX.seqP_value (fun _ => Below.refl _ _) _ (by first | rfl | simp) (fun w' hw' hctx => by (go_simp); (try first | with_reducible rfl | simp)) ?_
        simp only [Act.put, List.setIfInBounds_toArray, List.set_cons_zero, List.set_cons_succ]
        refine RX.seqP_value (fun _ => Below.refl _ _) _ (by first | rfl | simp) (fun w' hw' hctx => by (go_simp); (try first | with_reducible rfl | simp)) ?_
        simp only [Act.put, List.setIfInBounds_toArray, List.set_cons_zero, List.set_cons_succ]
        refine RX.seqP_value (fun _ => Below.refl _ _) _ (by first | rfl | simp) (fun w' hw' hctx => by (go_simp); (try first | with_reducible rfl | simp)) ?_
        simp only [Act.put, List.setIfInBounds_toArray, List.set_cons_zero, List.set_cons_succ]
        refine RX.seqP_value (fun _ => Below.refl _ _) _ (by first | rfl | simp) (fun w' hw' hctx => by (go_simp); (try first | with_reducible rfl | simp)) ?_
        simp only [Act.put, List.setIfInBounds_toArray, List.set_cons_zero, List.set_cons_succ]
        refine RX.seqP_value (fun _ => Below.refl _ _) _ (by first | rfl | simp) (fun w' hw' hctx => by (go_simp); (try first | with_reducible rfl | simp)) ?_
        simp only [Act.put, List.setIfInBounds_toArray, List.set_cons_zero, List.set_cons_succ]
        refine RX.seqP_value (fun _ => Below.refl _ _) _ (by first | rfl | simp) (fun w' hw' hctx => by (go_simp); (try first | with_reducible rfl | simp)) ?_
        simp only [Act.put, List.setIfInBounds_toArray, List.set_cons_zero, List.set_cons_succ]
        refine RX.seqP_value (fun _ => Below.refl _ _) _ (by first | rfl | simp) (fun w' hw' hctx => by (go_simp); (try first | with_reducible rfl | simp)) ?_
        simp only [Act.put, List.setIfInBounds_toArray, List.set_cons_zero, List.set_cons_succ]
        refine RX.seqP_value (fun _ => Below.refl _ _) _ (by first | rfl | simp) (fun w' hw' hctx => by (go_simp); (try first | with_reducible rfl | simp)) ?_
        simp only [Act.put, List.setIfInBounds_toArray, List.set_cons_zero, List.set_cons_succ]
        refine RX.seqP_value (fun _ => Below.refl _ _) _ (by first | rfl | simp) (fun w' hw' hctx => by (go_simp); (try first | with_reducible rfl | simp)) ?_
        simp only [Act.put, List.setIfInBounds_toArray, List.set_cons_zero, List.set_cons_succ]
        refine RX.seqP_value (fun _ => Below.refl _ _) _ (by first | rfl | simp) (fun w' hw' hctx => by (go_simp); (try first | with_reducible rfl | simp)) ?_
        simp only [Act.put, List.setIfInBounds_toArray, List.set_cons_zero, List.set_cons_succ]
        refine RX.seqP_call (16) #[.slice (some ⟨b, o + i * 4, none⟩) 1 (cx - i), .slice (some ⟨b', o' + i * 6, none⟩) 1 (c' - i)] (.int .i64 0) (by first | rfl | simp) (fun w' hw' hctx => ?_) (fun w' hw' hctx => hcon w' (below_tr hdr hw')) ?_
        · go_simp
        simp only [Act.put, List.setIfInBounds_toArray, List.set_cons_zero, List.set_cons_succ]
        refine RX.seqP_value (fun _ => Below.refl _ _) _ (by first | rfl | simp) (fun w' hw' hctx => by (go_simp); (try first | with_reducible rfl | simp)) ?_
        simp only [Act.put, List.setIfInBounds_toArray, List.set_cons_zero, List.set_cons_succ]
        refine RX.seqP_nil (fun v1 hR hctx _ => ?_)
        have hv1 := below_tr hdr hR
        clear hctx hR
        have HX1 := Lib.hid (HX.out.below hv1)
        have HY1 := Lib.hid (HY.out.below hv1)
        have HV1 := Lib.hid hv1
        clear hcon hv1
        go_wp2_with fail
        have hdr := below_drw v1
        try simp only [List.append_eq, List.cons_append, List.nil_append]
        refine RX.wp_region_plan (fun w w' => Below w.heap.size w w') [.it (.int .i64 0), .it (.bool true), .it (.slice (some ⟨b, o, none⟩) nx cx), .it (.int .i64 (i : Int)), .it (.pointer (some ⟨b, o + i * 4, none⟩)), .it (.agg #[.int .u8 x.k, .int .i64 x.n, .int .i64 x.u, .string x.t]), .it (.slice (some ⟨b', o', none⟩) k c'), .it (.int .i64 (i : Int)), .it (.pointer (some ⟨b', o' + i * 6, none⟩)), .it (.pointer (some ⟨b', o' + i * 6 + 1, none⟩)), .it (.int .u8 y.ty), .it (.bool true), .it (.bool false), .it (.bool false), .it (.int .i64 0), .it (.bool false), .it (.bool false), .it undef, .it undef, .it (.bool false), .it (.bool false)] (by kernel_rfl) (by kernel_rfl) (fun _ => Below.refl _ _) (fun _ _ _ => below_tr) ?_
        refine RX.seqP_value (fun _ => Below.refl _ _) _ (by first | rfl | simp) (fun w' hw' hctx => by (go_simp); (try first | with_reducible rfl | simp)) ?_
        simp only [Act.put, List.setIfInBounds_toArray, List.set_cons_zero, List.set_cons_succ]
        refine RX.seqP_value (fun _ => Below.refl _ _) _ (by first | rfl | simp) (fun w' hw' hctx => by (go_simp); (try first | with_reducible rfl | simp)) ?_
        simp only [Act.put, List.setIfInBounds_toArray, List.set_cons_zero, List.set_cons_succ]
        refine RX.seqP_value (fun _ => Below.refl _ _) _ (by first | rfl | simp) (fun w' hw' hctx => by (go_simp); (try first | with_reducible rfl | simp)) ?_
        simp only [Act.put, List.setIfInBounds_toArray, List.set_cons_zero, List.set_cons_succ]
        refine RX.seqP_value (fun _ => Below.refl _ _) _ (by first | rfl | simp) (fun w' hw' hctx => by (go_simp); (try first | with_reducible rfl | simp)) ?_
        simp only [Act.put, List.setIfInBounds_toArray, List.set_cons_zero, List.set_cons_succ]
        refine RX.seqP_value (fun _ => Below.refl _ _) _ (by first | rfl | simp) (fun w' hw' hctx => by (go_simp); (try first | with_reducible rfl | simp)) ?_
        simp only [Act.put, List.setIfInBounds_toArray, List.set_cons_zero, List.set_cons_succ]
        refine RX.seqP_value (fun _ => Below.refl _ _) _ (by first | rfl | simp) (fun w' hw' hctx => ?_) ?_
        · obtain ⟨c0, c1, c2, c3, c4⟩ := HX1.out.below (below_tr hdr hw')
          go_simp
          try first | with_reducible rfl | simp
        simp only [Act.put, List.setIfInBounds_toArray, List.set_cons_zero, List.set_cons_succ]
        refine RX.seqP_value (fun _ => Below.refl _ _) _ (by first | rfl | simp) (fun w' hw' hctx => by (go_simp); (try first | with_reducible rfl | simp)) ?_
        simp only [Act.put, List.setIfInBounds_toArray, List.set_cons_zero, List.set_cons_succ]
        refine RX.seqP_value (fun _ => Below.refl _ _) _ (by first | rfl | simp) (fun w' hw' hctx => by (go_simp); (try first | with_reducible rfl | simp)) ?_
        simp only [Act.put, List.setIfInBounds_toArray, List.set_cons_zero, List.set_cons_succ]
        refine RX.seqP_value (fun _ => Below.refl _ _) _ (by first | rfl | simp) (fun w' hw' hctx => by (go_simp); (try first | with_reducible rfl | simp)) ?_
        simp only [Act.put, List.setIfInBounds_toArray, List.set_cons_zero, List.set_cons_succ]
        refine RX.seqP_value (fun _ => Below.refl _ _) _ (by first | rfl | simp) (fun w' hw' hctx => by (go_simp); (try first | with_reducible rfl | simp)) ?_
        simp only [Act.put, List.setIfInBounds_toArray, List.set_cons_zero, List.set_cons_succ]
        refine RX.seqP_value (fun _ => Below.refl _ _) _ (by first | rfl | simp) (fun w' hw' hctx => ?_) ?_
        · obtain ⟨c0, c1, c2, c3, c4, c5, c6⟩ := HY1.out.below (below_tr hdr hw')
          go_simp
          try first | with_reducible rfl | simp
        simp only [Act.put, List.setIfInBounds_toArray, List.set_cons_zero, List.set_cons_succ]
        refine RX.seqP_call (28) #[.agg #[.int .u8 x.k, .int .i64 x.n, .int .i64 x.u, .string x.t], .int .u8 y.ty] (.bool true) (by first | rfl | simp) (fun w' hw' hctx => ?_) (fun w' hw' hctx => hcon2 w') ?_
        · go_simp
        simp only [Act.put, List.setIfInBounds_toArray, List.set_cons_zero, List.set_cons_succ]
        refine RX.seqP_value (fun _ => Below.refl _ _) _ (by first | rfl | simp) (fun w' hw' hctx => by (go_simp); (try first | with_reducible rfl | simp)) ?_
        simp only [Act.put, List.setIfInBounds_toArray, List.set_cons_zero, List.set_cons_succ]
        refine RX.seqP_value (fun _ => Below.refl _ _) _ (by first | rfl | simp) (fun w' hw' hctx => by (go_simp); (try first | with_reducible rfl | simp)) ?_
        simp only [Act.put, List.setIfInBounds_toArray, List.set_cons_zero, List.set_cons_succ]
        refine RX.seqP_value (fun _ => Below.refl _ _) _ (by first | rfl | simp) (fun w' hw' hctx => by (go_simp); (try first | with_reducible rfl | simp)) ?_
        simp only [Act.put, List.setIfInBounds_toArray, List.set_cons_zero, List.set_cons_succ]
        refine RX.seqP_value (fun _ => Below.refl _ _) _ (by first | rfl | simp) (fun w' hw' hctx => by (go_simp); (try first | with_reducible rfl | simp)) ?_
        simp only [Act.put, List.setIfInBounds_toArray, List.set_cons_zero, List.set_cons_succ]
        refine RX.seqP_value (fun _ => Below.refl _ _) _ (by first | rfl | simp) (fun w' hw' hctx => by (go_simp); (try first | with_reducible rfl | simp)) ?_
        simp only [Act.put, List.setIfInBounds_toArray, List.set_cons_zero, List.set_cons_succ]
        refine RX.seqP_skip (by first | rfl | simp) ?_
        simp only [Act.put, List.setIfInBounds_toArray, List.set_cons_zero, List.set_cons_succ]
        refine RX.seqP_skip (by first | rfl | simp) ?_
        simp only [Act.put, List.setIfInBounds_toArray, List.set_cons_zero, List.set_cons_succ]
        refine RX.seqP_value (fun _ => Below.refl _ _) _ (by first | rfl | simp) (fun w' hw' hctx => by (go_simp); (try first | with_reducible rfl | simp)) ?_
        simp only [Act.put, List.setIfInBounds_toArray, List.set_cons_zero, List.set_cons_succ]
        refine RX.seqP_value (fun _ => Below.refl _ _) _ (by first | rfl | simp) (fun w' hw' hctx => by (go_simp); (try first | with_reducible rfl | simp)) ?_
        simp only [Act.put, List.setIfInBounds_toArray, List.set_cons_zero, List.set_cons_succ]
        refine RX.seqP_nil (fun v2 hR hctx _ => ?_)
        have hv2 := below_tr hdr hR
        clear hctx hR
        have HW2 := Lib.hid (BW.out.trans ((below_tr HV1.out hv2).mono BW.out.size))
        clear hcon2 hv2
        cases m
        · go_wp2_with fail
          go_roundg (nx - (i + 1))
          case measure => omega
          case rel => exact ⟨i + 1, false, by go_num, rfl, by omega, by omega, Nat.le_refl _, Lib.hid (by rw [fit_step HM.out HGX.out HGY.out]; rfl), HW2⟩
        · go_wp2_with fail
          go_roundg (nx - (i + 1))
          case measure => omega
          case rel => exact ⟨i + 1, true, by go_num, rfl, by omega, by omega, Nat.le_refl _, Lib.hid (by rw [fit_step HM.out HGX.out HGY.out, HQ.out]; rfl), HW2⟩
    · have HMX : Hid (fitL lx (tys cs) = m) := Lib.hid (by
        rw [← fit_take lx cs i (by rw [HNx.out, HK.out]; omega)]
        exact HM.out)
      have hcon := fun W (hW : Below wr.heap.size wr W) => fitr_is ax a' cx c' nx k lx cs (fitE lx (tys cs)) HNx.out HK.out rfl W ((HAx.out.below BW.out).below hW) ((HC.out.below BW.out).below hW)
      have hE : fitE lx (tys cs) = if nx = k then (if m = true then 0 else 60) else 4 := by
        unfold fitE
        rw [tys_len, HNx.out, HK.out, HMX.out]
      rw [hE] at hcon
      clear hE
      by_cases hnk : nx = k
      · rw [if_pos hnk] at hcon
        have hltz : ¬ (i : Int) < (nx : Int) := by omega
        have hkz : (nx : Int) = (k : Int) := by omega
        subst hnk
        clear hlt hkz hik hlk hsz
        cases m
        · rw [if_neg (by simp)] at hcon
          go_wp2_with fail
          refine (hcon _ (Below.refl _ _)).mono ?_
          rintro e w3' ⟨rfl, hb3⟩
          have HB3' := Lib.hid (BW.out.trans (hb3.mono BW.out.size))
          clear hcon hb3
          go_wp2_with fail
          go_ret
          exact ⟨rfl, HB3'.out⟩
        · rw [if_pos rfl] at hcon
          go_wp2_with fail
          refine (hcon _ (Below.refl _ _)).mono ?_
          rintro e w3' ⟨rfl, hb3⟩
          have HB3' := Lib.hid (BW.out.trans (hb3.mono BW.out.size))
          clear hcon hb3
          go_wp2_with fail
          go_ret
          exact ⟨rfl, HB3'.out⟩
      · rw [if_neg hnk] at hcon
        have hkz : ¬ (nx : Int) = (k : Int) := by omega
        have hnez : ((nx : Int) != (k : Int)) = true := by simp only [bne_iff_ne]; exact hkz
        by_cases hin2 : i < nx
        · have hltz : (i : Int) < (nx : Int) := by omega
          have hlkz : ¬ (i : Int) < (k : Int) := by omega
          clear hlt hnk
          go_wp2_with fail
          refine (hcon _ (Below.refl _ _)).mono ?_
          rintro e w3' ⟨rfl, hb3⟩
          have HB3' := Lib.hid (BW.out.trans (hb3.mono BW.out.size))
          clear hcon hb3
          go_wp2_with fail
          go_ret
          exact ⟨rfl, HB3'.out⟩
        · have hltz : ¬ (i : Int) < (nx : Int) := by omega
          clear hlt hnk
          go_wp2_with fail
          refine (hcon _ (Below.refl _ _)).mono ?_
          rintro e w3' ⟨rfl, hb3⟩
          have HB3' := Lib.hid (BW.out.trans (hb3.mono BW.out.size))
          clear hcon hb3
          go_wp2_with fail
          go_ret
          exact ⟨rfl, HB3'.out⟩

theorem fits_law (ax : Option Addr) (cx nx : Nat) (lx : List Val) (a' : Option Addr) (c' k : Nat) (cs : List Col) (hnx : lx.length = nx) (hk : cs.length = k) (w : World) (hg : Good w) (hx : SlL w ax cx lx) (hC : SlC w a' c' cs) :
    Calls Tryd.prog 9 #[.slice ax nx cx, .slice a' k c'] w fun e w' => e = .returned (.bool true) ∧ Below w.heap.size w w' := by
  by_cases h : 1000 < k
  · exact lfits_big ax cx nx lx a' c' k cs hnx hk h w hg hx hC
  · exact lfits_small ax cx nx lx a' c' k cs hnx hk (by omega) w hg hx hC

end Go.Proofs.YtoglaibcmfjclaaDoor
