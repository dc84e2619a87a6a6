/-
  A heap and the document's own tell the same (stage 11).
-/
import Derived.Test.YtkedkeelbbfmkaaHTh
import Derived.Test.YtkedkeelbbfmkaaHVis
import Derived.Test.YtkedkeelbbfmkaaHRefs
import Derived.Test.YtkedkeelbbfmkaaRegX
import Derived.Test.YtkedkeelbbfmkaaRegL
import Derived.Test.YtkedkeelbbfmkaaERX
namespace Go.Proofs.Ytkedkeelbbfmkaa
open Go.RowKit
set_option linter.unusedVariables false

theorem drewN_belS (w : World) (n : Nat) : Below w.heap.size w (w.drewN n) := ⟨rfl, rfl, rfl, Nat.le_refl _, fun _ _ => rfl⟩

/-- A block whose first m cells are there and may be written. -/
def Wrt (W : World) (b m : Nat) : Prop := ∃ e l, Lit W b e l ∧ m ≤ l.length
theorem Wrt.of {e : TypeId} {m n c b : Nat} {W : World} {f : Nat → List Value} (h : RowF e m W (.slice (some ⟨b, 0, none⟩) n c) n f) : Wrt W b (n * m) := by
  obtain ⟨⟨xs, h1, -⟩, -⟩ := h
  rcases h1.2 with ⟨h0, -⟩ | ⟨b', cap, cur, h0, -, hg, hnc, -, hcs, -⟩
  · exact absurd h0 (by simp)
  · simp only [Value.slice.injEq, Option.some.injEq, Addr.mk.injEq] at h0
    obtain ⟨⟨rfl, -⟩, -⟩ := h0
    exact ⟨e, cur.toList, by unfold Lit; rw [hg], by rw [Array.length_toList, hcs]; exact Nat.mul_le_mul_right m hnc⟩
theorem Wrt.below {W W' : World} {b m : Nat} (h : Wrt W b m) (hb : Below W.heap.size W W') : Wrt W' b m := by obtain ⟨e, l, h1, h2⟩ := h; exact ⟨e, l, h1.below hb, h2⟩
theorem Wrt.set {W : World} {b m : Nat} (h : Wrt W b m) (o : Nat) (v : Value) : Wrt (W.setCell ⟨b, o, none⟩ v) b m := by obtain ⟨e, l, h1, h2⟩ := h; exact ⟨e, _, h1.set o v, by rw [List.length_set]; exact h2⟩
theorem Wrt.cell {W : World} {b m : Nat} (h : Wrt W b m) {o : Nat} (ho : o < m) : ∃ v, W.cell? ⟨b, o, none⟩ = some v := by obtain ⟨e, l, h1, h2⟩ := h; exact ⟨l[o]'(by omega), h1.cell (by simp)⟩
theorem Wrt.fz {W : World} {b m : Nat} (h : Wrt W b m) (o : Nat) : W.frozen? ⟨b, o, none⟩ = false := by obtain ⟨e, l, h1, h2⟩ := h; exact h1.fz o
theorem Wrt.lt {W : World} {b m : Nat} (h : Wrt W b m) : b < W.heap.size := by obtain ⟨e, l, h1, h2⟩ := h; exact h1.lt

/-- A tuple at block g, and its row, which may be written. -/
structure Sc (N : Nat) (w W : World) (g : Nat) (cs : List Value) (a : Option Addr) (n : Nat) : Prop where
  bel : Below N w W
  lit : Lit W g 28 cs
  own : 0 < n → ∃ b, a = some ⟨b, 0, none⟩ ∧ N ≤ b ∧ b ≠ g ∧ Wrt W b (n * 4)
theorem Sc.below {N : Nat} {w W W' : World} {g : Nat} {cs : List Value} {a : Option Addr} {n : Nat} (h : Sc N w W g cs a n) (hb : Below W.heap.size W W') (hN : N ≤ W.heap.size) : Sc N w W' g cs a n :=
  ⟨h.bel.trans (hb.mono hN), h.lit.below hb, fun hn => by obtain ⟨b, e, h1, h2, h3⟩ := h.own hn; exact ⟨b, e, h1, h2, h3.below hb⟩⟩
theorem Sc.set {N : Nat} {w W : World} {g b : Nat} {cs : List Value} {n : Nat} (h : Sc N w W g cs (some ⟨b, 0, none⟩) n) (hn : 0 < n) (o : Nat) (v : Value) : Sc N w (W.setCell ⟨b, o, none⟩ v) g cs (some ⟨b, 0, none⟩) n := by
  obtain ⟨b', e, h1, h2, h3⟩ := h.own hn
  simp only [Option.some.injEq, Addr.mk.injEq] at e
  obtain ⟨rfl, -⟩ := e
  exact ⟨h.bel.setCell (by exact h1) _, h.lit.stay ((Touch.setCell W (F := fun k => k = b) rfl o v).stay (G := fun k => k ≠ b) (fun k hk e => hk e)) (Ne.symm h2), fun _ => ⟨b, rfl, h1, h2, h3.set o v⟩⟩

/-- A row of numbers that may be written. -/
structure Si (N : Nat) (w W : World) (a : Option Addr) (n : Nat) : Prop where
  bel : Below N w W
  own : 0 < n → ∃ b, a = some ⟨b, 0, none⟩ ∧ N ≤ b ∧ Wrt W b (n * 1)
theorem Si.set {N : Nat} {w W : World} {b : Nat} {n : Nat} (h : Si N w W (some ⟨b, 0, none⟩) n) (hn : 0 < n) (o : Nat) (v : Value) : Si N w (W.setCell ⟨b, o, none⟩ v) (some ⟨b, 0, none⟩) n := by
  obtain ⟨b', e, h1, h3⟩ := h.own hn
  simp only [Option.some.injEq, Addr.mk.injEq] at e
  obtain ⟨rfl, -⟩ := e
  exact ⟨h.bel.setCell (by exact h1) _, fun _ => ⟨b, rfl, h1, h3.set o v⟩⟩

theorem rI_some {W : World} {a : Option Addr} {n c i : Nat} {l : List Int} {x : Int} (h : RowI W (.slice a n c) l) (hx : l[i]? = some x) : ∃ b, a = some ⟨b, 0, none⟩ := by
  obtain ⟨hi, e⟩ := List.getElem?_eq_some_iff.1 hx
  obtain ⟨b, c', e1, -⟩ := RowI.at h hi
  simp only [Value.slice.injEq] at e1
  exact ⟨b, e1.1⟩
theorem rI_cell {W : World} {b n c i : Nat} {l : List Int} {x : Int} (h : RowI W (.slice (some ⟨b, 0, none⟩) n c) l) (hx : l[i]? = some x) : b < W.heap.size ∧ W.cell? ⟨b, i, none⟩ = some (.int .i64 x) := by
  obtain ⟨hi, e⟩ := List.getElem?_eq_some_iff.1 hx
  obtain ⟨b', c', e1, -, -, h3, h4, -⟩ := RowI.at h hi
  simp only [Value.slice.injEq, Option.some.injEq, Addr.mk.injEq] at e1
  obtain ⟨⟨rfl, -⟩, -, -⟩ := e1
  refine ⟨h3, ?_⟩
  rw [h4 i hi]
  simp [hi, e]

set_option maxRecDepth 100000 in
set_option maxHeartbeats 8000000 in
theorem same_is {X : Nat → Prop} {w0 : World} (w : World) (h x : Nat) (A : Ab) (z z1 : Nat) (F : Nat → Prop) (ls gs : Value) (gl : List Gvn) (R : Nat → Prop) (hz : z ≤ 90000) (hzl : A.pl.length ≤ 1000) (H : One X w0 w h A z) (G : Rf w x A z1 F ls gs gl R) :
    Calls Try.prog 34 #[.pointer (some ⟨h, 0, none⟩), .pointer (some ⟨x, 0, none⟩)] w fun e w' => e = .returned (.bool true) ∧ Below w.heap.size w w' := by
  obtain ⟨la, lc, rfl, -, -⟩ := G.row.form
  obtain ⟨n, hn⟩ : ∃ n, (pls A).length = n := ⟨_, rfl⟩
  have hn9 : n ≤ 1000 := by rw [← hn, pls_len]; exact hzl
  rw [hn] at G
  have HH := Lib.hid H
  have HG := Lib.hid G
  have HN := Lib.hid hn
  have HZ := Lib.hid (And.intro hz hzl)
  clear H G hn hz hzl
  go_enter Try.func34, Try.ntmps34
  have hcon := one_tables HH.out HZ.out.1
  go_wp2_with fail
  refine (show Calls Try.prog _ _ _ _ from hcon).mono ?_
  rintro e w1 ⟨tS, rfl, tabs, hr, ht, -, -, hb1⟩
  obtain ⟨ta, tc, rfl, -, -⟩ := hr.form
  obtain ⟨nt, hnt⟩ : ∃ nt, tabs.length = nt := ⟨_, rfl⟩
  rw [hnt] at hr ⊢
  have HNT := Lib.hid hnt
  have HTB := Lib.hid ht
  have hnt9 : nt ≤ 1000 := by have e1 := tabs_len ht; have e2 := HZ.out.2; omega
  have HRa : Hid (RowI w1 (.slice ta nt tc) tabs) := Lib.hid hr
  have HBa := Lib.hid hb1
  clear hcon hr ht hb1 hnt
  obtain ⟨nl, hnl⟩ : ∃ nl, A.pl.length = nl := ⟨_, rfl⟩
  have HNL := Lib.hid hnl
  clear hnl
  have hcon := one_len (n := (nl : Int)) (HH.out.below HBa.out) HZ.out.1 (by rw [HNL.out])
  go_wp2_with fail
  refine (show Calls Try.prog _ _ _ _ from hcon).mono ?_
  rintro e w2 ⟨rfl, -, hb2⟩
  have HBb := Lib.hid (below_tr HBa.out hb2)
  have HRb := Lib.hid (RowF.below HRa.out hb2)
  clear hcon hb2 HBa HRa
  have hcon := rlen_is w2 x A z1 F (.slice la n lc) gs gl R (HG.out.below HBb.out)
  rw [HNL.out] at hcon
  go_wp2_with fail
  refine (show Calls Try.prog _ _ _ _ from hcon).mono ?_
  rintro e w3 ⟨rfl, rfl⟩
  clear hcon
  have hcon := rtabs_is w3 x A z1 F (.slice la n lc) gs gl R (by have := HZ.out.2; omega) (HG.out.below HBb.out)
  go_wp2_with fail
  refine (show Calls Try.prog _ _ _ _ from hcon).mono ?_
  rintro e w4 ⟨sT, rfl, m, hr, ht, hb4⟩
  obtain rfl := HTB.out.eq ht
  have HBc := Lib.hid (below_tr HBb.out hb4)
  have HRc := Lib.hid (RowF.below HRb.out hb4)
  clear hcon ht hb4 HBb HRb
  have hcon := ints_is (.slice ta nt tc) sT tabs tabs true (by simp) w4 HRc.out hr
  clear hr
  go_wp2_with fail
  refine (show Calls Try.prog _ _ _ _ from hcon).mono ?_
  rintro e w5 ⟨rfl, hb5⟩
  have HB1 := Lib.hid (below_tr HBc.out hb5)
  have HR1 : Hid (RowI w5 (.slice ta nt tc) tabs) := Lib.hid (RowF.below HRc.out hb5)
  clear hcon hb5 HBc HRc
  go_wp2_with fail
  go_loopg [6] n (fun gg s6 wv => ∃ i : Nat, s6 = .int .i64 i ∧ i ≤ n ∧ n - i ≤ gg ∧ Hid (Below w.heap.size w wv) ∧ Hid (RowI wv (.slice ta nt tc) tabs))
  case atStart => exact ⟨0, rfl, Nat.zero_le _, by omega, HB1, HR1⟩
  case round =>
    obtain ⟨i, rfl, hi, hgi, HB2, HR2⟩ := hrel
    clear HB1 HR1
    obtain ⟨wq, hwq⟩ : ∃ wq, wq = wr := ⟨_, rfl⟩
    subst hwq
    have hGq := HG.out.below HB2.out
    have cx := hGq.lit.cell (o := 0) rfl
    have hxl := hGq.lit.lt
    by_cases hlt1 : i < n
    · have hltz1 : (i : Int) < (n : Int) := by omega
      have HL1x := Lib.hid (And.intro hlt1 (And.intro hi hgi))
      obtain ⟨p, hp⟩ : ∃ p, (pls A)[i]? = some p := ⟨(pls A)[i]'(by rw [HN.out]; exact hlt1), by simp [HN.out, hlt1]⟩
      obtain ⟨b, pa, pc, rfl, hbb, hpr, -, k0, k1, k2, k3, k4, k5, k6, k7⟩ := hGq.row.at hp
      obtain ⟨sk, hsk, hmm⟩ := pls_mem (List.mem_of_getElem? hp)
      obtain ⟨hat1, hat2⟩ := atT_is HH.out.ok hmm
      rw [← hsk] at hat1 hat2
      have hwf := (HH.out.ok.wf _ hmm).1
      obtain ⟨pn, hpl⟩ : ∃ pn, p.2.row.length = pn := ⟨_, rfl⟩
      rw [hpl] at k7
      have HPL := Lib.hid hpl
      have HWF := Lib.hid hwf
      have HPR := Lib.hid hpr
      have hpn9 : pn ≤ 1000000 := by rw [← hpl]; exact hwf.len
      have HGq := Lib.hid hGq
      clear hp hpl hsk hmm hwf hpr hlt1 hi hgi hGq
      have hcon := one_at (t := p.2) (b := true) (HH.out.below HB2.out) p.1 HZ.out.1 hat1 hat2
      go_wp2_with fail
      refine (show Calls Try.prog _ _ _ _ from hcon).mono ?_
      rintro e w5 ⟨ss, rfl, hr, ho, -, hb5⟩
      have HVO := Lib.hid ho
      have HVR := Lib.hid hr
      obtain ⟨va, vc, rfl, q2⟩ := RowV.sl hr HWF.out.row
      rw [HPL.out]
      unfold tupV
      clear hcon hr ho hat1 hat2
      obtain ⟨g, hg⟩ : ∃ g, w5.heap.size = g := ⟨_, rfl⟩
      obtain ⟨W1, hW1⟩ : ∃ W1, w5.alloc (.cells (tupC p.2 (.slice va pn vc)).toArray 28) = W1 := ⟨_, rfl⟩
      have l1 := Lit.new w5 28 (tupC p.2 (.slice va pn vc))
      have b1 := Below.allocs w5 (.cells (tupC p.2 (.slice va pn vc)).toArray 28)
      rw [hW1] at l1 b1
      rw [hg] at l1
      have b15 := below_tr hb5 b1
      have HL1 := Lib.hid l1
      have HB15 := Lib.hid b15
      have HQ1 := Lib.hid (And.intro (q2.below b1) (HPR.out.below b15))
      have HKX : Hid (W1.cell? ⟨x, 0, none⟩ = some (.slice (some ⟨b, 0, none⟩) n lc) ∧ x < W1.heap.size) := Lib.hid ⟨by rw [b15.cell (p := ⟨x, _, none⟩) hxl]; exact cx, Nat.lt_of_lt_of_le hxl b15.size⟩
      have HKS : Hid (b < W1.heap.size ∧ W1.cell? ⟨b, i * 8 + 1, none⟩ = some (.int .i64 p.2.no) ∧ W1.cell? ⟨b, i * 8 + 2, none⟩ = some (.int .i64 p.2.id) ∧ W1.cell? ⟨b, i * 8 + 3, none⟩ = some (.int .i64 p.2.mn) ∧ W1.cell? ⟨b, i * 8 + 4, none⟩ = some (.int .i64 p.2.cm) ∧ W1.cell? ⟨b, i * 8 + 5, none⟩ = some (.int .i64 p.2.mx) ∧ W1.cell? ⟨b, i * 8 + 6, none⟩ = some (.int .i64 p.2.cx) ∧ W1.cell? ⟨b, i * 8 + 7, none⟩ = some (.slice pa pn pc)) :=
        Lib.hid ⟨Nat.lt_of_lt_of_le hbb b15.size, by rw [b15.cell (p := ⟨b, _, none⟩) hbb]; exact k1, by rw [b15.cell (p := ⟨b, _, none⟩) hbb]; exact k2, by rw [b15.cell (p := ⟨b, _, none⟩) hbb]; exact k3, by rw [b15.cell (p := ⟨b, _, none⟩) hbb]; exact k4, by rw [b15.cell (p := ⟨b, _, none⟩) hbb]; exact k5, by rw [b15.cell (p := ⟨b, _, none⟩) hbb]; exact k6, by rw [b15.cell (p := ⟨b, _, none⟩) hbb]; exact k7⟩
      have HVW : Hid (0 < pn → ∃ b, va = some ⟨b, 0, none⟩ ∧ wq.heap.size ≤ b ∧ b ≠ g ∧ Wrt W1 b (pn * 4)) := Lib.hid (fun h0 => by
        have hr := HVR.out
        obtain ⟨b9, c9, e9, -, -, hl9, -⟩ := RowF.at hr (j := 0) (by rw [HPL.out]; exact h0)
        simp only [Value.slice.injEq] at e9
        obtain ⟨q1, -, -⟩ := e9
        subst q1
        refine ⟨b9, rfl, HVO.out b9 rfl, by omega, ?_⟩
        have := (Wrt.of hr).below b1
        rwa [HPL.out] at this)
      have HW1 := Lib.hid hW1
      have HG1 := Lib.hid hg
      unfold tupC at HW1
      clear hW1 hg l1 b1 b15 hb5 q2 k0 k1 k2 k3 k4 k5 k6 k7 hbb cx hxl HVR HVO
      go_upto_region 8 with (fail)
      rw [show w5.alloc _ = W1 from HW1.out, HG1.out]
      clear HW1 HG1
      have hdr := below_drw W1
      try simp only [List.append_eq, List.cons_append, List.nil_append]
      refine RX.wp_region_plan (fun w w' => Below w.heap.size w w') [.it (.bool true), .it (.bool false), .it (.bool false), .it (.agg #[.int .i64 p.2.no, .int .i64 p.2.id, .int .i64 p.2.mn, .int .i64 p.2.cm, .int .i64 p.2.mx, .int .i64 p.2.cx, .slice va pn vc]), .it (.pointer (some ⟨x, 0, none⟩)), .it (.pointer (some ⟨x, 0, none⟩)), .it (.pointer (some ⟨x, 0, none⟩)), .it (.slice (some ⟨b, 0, none⟩) n lc), .it (.int .i64 i), .it (.pointer (some ⟨b, i * 8, none⟩)), .it (.pointer (some ⟨b, i * 8 + 1, none⟩)), .it (.agg #[.int .i64 p.2.no, .int .i64 p.2.id, .int .i64 p.2.mn, .int .i64 p.2.cm, .int .i64 p.2.mx, .int .i64 p.2.cx, .slice pa pn pc]), .it (.bool true), .it (.bool false), .it (.bool false)] (by kernel_rfl) (by kernel_rfl) (fun _ => Below.refl _ _) (fun _ _ _ => below_tr) ?_
      refine RX.seqP_value (fun _ => Below.refl _ _) _ (by first | rfl | simp) (fun w' hw' hctx => by (go_simp); (try first | with_reducible rfl | simp)) ?_
      simp only [Act.put, List.setIfInBounds_toArray, List.set_cons_zero, List.set_cons_succ]
      refine RX.seqP_value (fun _ => Below.refl _ _) _ (by first | rfl | simp) (fun w' hw' hctx => by (go_simp); (try first | with_reducible rfl | simp)) ?_
      simp only [Act.put, List.setIfInBounds_toArray, List.set_cons_zero, List.set_cons_succ]
      refine RX.seqP_value (fun _ => Below.refl _ _) _ (by first | rfl | simp) (fun w' hw' hctx => by (go_simp); (try first | with_reducible rfl | simp)) ?_
      simp only [Act.put, List.setIfInBounds_toArray, List.set_cons_zero, List.set_cons_succ]
      refine RX.seqP_value (fun _ => Below.refl _ _) _ (by first | rfl | simp) (fun w' hw' hctx => ?_) ?_
      · have hl := HL1.out.below (below_tr hdr hw')
        obtain ⟨c0, c1, c2, c3, c4, c5, c6, cl⟩ := cells7 hl
        go_simp
        try first | with_reducible rfl | simp
      simp only [Act.put, List.setIfInBounds_toArray, List.set_cons_zero, List.set_cons_succ]
      refine RX.seqP_value (fun _ => Below.refl _ _) _ (by first | rfl | simp) (fun w' hw' hctx => by (go_simp); (try first | with_reducible rfl | simp)) ?_
      simp only [Act.put, List.setIfInBounds_toArray, List.set_cons_zero, List.set_cons_succ]
      refine RX.seqP_value (fun _ => Below.refl _ _) _ (by first | rfl | simp) (fun w' hw' hctx => ?_) ?_
      · have hbe := (below_tr hdr hw')
        have hx9 := HKX.out.2
        have hx0 := HKX.out.1
        rw [← hbe.cell (p := ⟨x, 0, none⟩) hx9] at hx0
        have hx8 := Nat.lt_of_lt_of_le hx9 hbe.size
        go_simp
        try first | with_reducible rfl | simp
      simp only [Act.put, List.setIfInBounds_toArray, List.set_cons_zero, List.set_cons_succ]
      refine RX.seqP_value (fun _ => Below.refl _ _) _ (by first | rfl | simp) (fun w' hw' hctx => by (go_simp); (try first | with_reducible rfl | simp)) ?_
      simp only [Act.put, List.setIfInBounds_toArray, List.set_cons_zero, List.set_cons_succ]
      refine RX.seqP_value (fun _ => Below.refl _ _) _ (by first | rfl | simp) (fun w' hw' hctx => ?_) ?_
      · have hbe := (below_tr hdr hw')
        have hx9 := HKX.out.2
        have hx0 := HKX.out.1
        rw [← hbe.cell (p := ⟨x, 0, none⟩) hx9] at hx0
        have hx8 := Nat.lt_of_lt_of_le hx9 hbe.size
        go_simp
        try first | with_reducible rfl | simp
      simp only [Act.put, List.setIfInBounds_toArray, List.set_cons_zero, List.set_cons_succ]
      refine RX.seqP_value (fun _ => Below.refl _ _) _ (by first | rfl | simp) (fun w' hw' hctx => by (go_simp); (try first | with_reducible rfl | simp)) ?_
      simp only [Act.put, List.setIfInBounds_toArray, List.set_cons_zero, List.set_cons_succ]
      refine RX.seqP_value (fun _ => Below.refl _ _) _ (by first | rfl | simp) (fun w' hw' hctx => by (go_simp); (try first | with_reducible rfl | simp)) ?_
      simp only [Act.put, List.setIfInBounds_toArray, List.set_cons_zero, List.set_cons_succ]
      refine RX.seqP_value (fun _ => Below.refl _ _) _ (by first | rfl | simp) (fun w' hw' hctx => by (go_simp); (try first | with_reducible rfl | simp)) ?_
      simp only [Act.put, List.setIfInBounds_toArray, List.set_cons_zero, List.set_cons_succ]
      refine RX.seqP_value (fun _ => Below.refl _ _) _ (by first | rfl | simp) (fun w' hw' hctx => ?_) ?_
      · obtain ⟨hb0, c1, c2, c3, c4, c5, c6, c7⟩ := HKS.out
        have hbe := (below_tr hdr hw')
        rw [← hbe.cell (p := ⟨b, _, none⟩) hb0] at c1 c2 c3 c4 c5 c6 c7
        have hb9 := Nat.lt_of_lt_of_le hb0 hbe.size
        go_simp
        try first | with_reducible rfl | simp
      simp only [Act.put, List.setIfInBounds_toArray, List.set_cons_zero, List.set_cons_succ]
      refine RX.seqP_call (24) #[.agg #[.int .i64 p.2.no, .int .i64 p.2.id, .int .i64 p.2.mn, .int .i64 p.2.cm, .int .i64 p.2.mx, .int .i64 p.2.cx, .slice va pn vc], .agg #[.int .i64 p.2.no, .int .i64 p.2.id, .int .i64 p.2.mn, .int .i64 p.2.cm, .int .i64 p.2.mx, .int .i64 p.2.cx, .slice pa pn pc]] (.bool true) (by first | rfl | simp) (fun w' hw' hctx => ?_) (fun w' hw' hctx => hsame_sl w' p.2 va pa vc pc pn HPL.out (HQ1.out.1.below (below_tr hdr hw')) (HQ1.out.2.below (below_tr hdr hw'))) ?_
      · go_simp
      simp only [Act.put, List.setIfInBounds_toArray, List.set_cons_zero, List.set_cons_succ]
      refine RX.seqP_value (fun _ => Below.refl _ _) _ (by first | rfl | simp) (fun w' hw' hctx => by (go_simp); (try first | with_reducible rfl | simp)) ?_
      simp only [Act.put, List.setIfInBounds_toArray, List.set_cons_zero, List.set_cons_succ]
      refine RX.seqP_value (fun _ => Below.refl _ _) _ (by first | rfl | simp) (fun w' hw' hctx => by (go_simp); (try first | with_reducible rfl | simp)) ?_
      simp only [Act.put, List.setIfInBounds_toArray, List.set_cons_zero, List.set_cons_succ]
      refine RX.seqP_nil (fun v2 hR hctx _ => ?_)
      have hv2 := below_tr hdr hR
      clear hctx hR
      have HSC : Hid (Sc wq.heap.size wq v2 g (tupC p.2 (.slice va pn vc)) va pn) := Lib.hid (Sc.below ⟨HB15.out, HL1.out, HVW.out⟩ hv2 HB15.out.size)
      clear hv2 hdr HL1 HVW HKS HKX HQ1 HB15
      go_wp2_with fail
      go_loopg [9] pn (fun gg s9 wv => ∃ j : Nat, s9 = .int .i64 j ∧ j ≤ pn ∧ pn - j ≤ gg ∧ Hid (Sc wq.heap.size wq wv g (tupC p.2 (.slice va pn vc)) va pn))
      case atStart => exact ⟨0, rfl, Nat.zero_le _, by omega, HSC⟩
      case round =>
        obtain ⟨j, rfl, hj, hgj, HSj⟩ := hrel
        clear HSC
        obtain ⟨-, -, -, -, -, -, c6, cl⟩ := cells7 HSj.out.lit
        by_cases hlt2 : j < pn
        · have hltz2 : (j : Int) < (pn : Int) := by omega
          obtain ⟨b5, rfl, hn5, hne5, hw5⟩ := HSj.out.own (by omega)
          obtain ⟨v0, e0⟩ := hw5.cell (o := j * 4) (by omega)
          obtain ⟨v1, e1⟩ := hw5.cell (o := j * 4 + 1) (by omega)
          obtain ⟨v2, e2⟩ := hw5.cell (o := j * 4 + 2) (by omega)
          obtain ⟨v3, e3⟩ := hw5.cell (o := j * 4 + 3) (by omega)
          have f0 := hw5.fz (j * 4)
          have f1 := hw5.fz (j * 4 + 1)
          have f2 := hw5.fz (j * 4 + 2)
          have f3 := hw5.fz (j * 4 + 3)
          have hl5 := hw5.lt
          have HP0 : Hid (0 < pn) := Lib.hid (by omega)
          have HL2 := Lib.hid (And.intro hlt2 (And.intro hj hgj))
          clear hw5 hn5 hne5 hlt2 hj hgj
          go_wp2_with fail
          go_roundg (pn - (j + 1))
          case measure => have := HL2.out; omega
          case rel => exact ⟨j + 1, by go_num, by have := HL2.out; omega, Nat.le_refl _, Lib.hid ((((HSj.out.set HP0.out _ _).set HP0.out _ _).set HP0.out _ _).set HP0.out _ _)⟩
        · have hltz2 : ¬ (j : Int) < (pn : Int) := by omega
          go_wp2_with fail
          go_roundg (n - (i + 1))
          case measure => have := HL1x.out; omega
          case rel => exact ⟨i + 1, by go_num, by have := HL1x.out; omega, Nat.le_refl _, Lib.hid (below_tr HB2.out HSj.out.bel), Lib.hid (RowF.below HR2.out HSj.out.bel)⟩
    · have hltz1 : ¬ (i : Int) < (n : Int) := by omega
      have HBi := HB2
      have HRi := HR2
      clear HB2 HR2 hGq hi hgi hlt1
      go_wp2_with fail
      go_loopg [10] nt (fun gg s10 wv => ∃ i : Nat, s10 = .int .i64 i ∧ i ≤ nt ∧ nt - i ≤ gg ∧ Hid (Below w.heap.size w wv) ∧ Hid (RowI wv (.slice ta nt tc) tabs))
      case atStart => exact ⟨0, rfl, Nat.zero_le _, by omega, HBi, HRi⟩
      case round =>
        obtain ⟨i, rfl, hi, hgi, HB3, HR3⟩ := hrel
        clear HBi HRi
        by_cases hlt3 : i < nt
        · have hltz3 : (i : Int) < (nt : Int) := by omega
          have HL3 := Lib.hid (And.intro hlt3 (And.intro hi hgi))
          obtain ⟨tx, htx⟩ : ∃ tx, tabs[i]? = some tx := ⟨tabs[i]'(by rw [HNT.out]; exact hlt3), by simp [HNT.out, hlt3]⟩
          obtain ⟨tb, rfl⟩ := rI_some HR3.out htx
          have HXI := Lib.hid htx
          have HXW : Hid (I64 tx) := Lib.hid (by
            obtain ⟨q, hq, e⟩ := (HTB.out.2 tx).1 (List.mem_of_getElem? htx)
            rw [← e]
            exact (HH.out.ok.wf q hq).1.no)
          obtain ⟨k1, k2⟩ := rI_cell HR3.out htx
          clear htx hi hgi hlt3
          have hcon := one_ids (HH.out.below HB3.out) tx HXW.out HZ.out.1
          go_wp2_with fail
          refine (show Calls Try.prog _ _ _ _ from hcon).mono ?_
          rintro e w5 ⟨iS, rfl, ids, hr, hids, -, -, hb5⟩
          obtain ⟨ia, ic, rfl, -, -⟩ := hr.form
          obtain ⟨ni, hni⟩ : ∃ ni, ids.length = ni := ⟨_, rfl⟩
          rw [hni] at hr ⊢
          have HNI := Lib.hid hni
          have HID := Lib.hid hids
          have hni9 : ni ≤ 1000 := by have e1 := ids_len hids; have e2 := HZ.out.2; omega
          have HB5 := Lib.hid (below_tr HB3.out hb5)
          have HR5 : Hid (RowI w5 (.slice (some ⟨tb, 0, none⟩) nt tc) tabs ∧ RowI w5 (.slice ia ni ic) ids) := Lib.hid ⟨RowF.below HR3.out hb5, hr⟩
          obtain ⟨k1, k2⟩ := rI_cell HR5.out.1 HXI.out
          clear hcon hr hids hb5 hni HB3 HR3
          have hcon := rids_is w5 x A z1 F (.slice la n lc) gs gl R tx (by have := HZ.out.2; omega) (HG.out.below HB5.out)
          go_wp2_with fail
          refine (show Calls Try.prog _ _ _ _ from hcon).mono ?_
          rintro e w6 ⟨iS, rfl, m, hr, hids, hb6⟩
          obtain rfl := HID.out.eq hids
          have HR6 : Hid (RowI w6 (.slice (some ⟨tb, 0, none⟩) nt tc) tabs ∧ RowI w6 (.slice ia ni ic) ids) := Lib.hid ⟨RowF.below HR5.out.1 hb6, RowF.below HR5.out.2 hb6⟩
          have HB6 := Lib.hid (below_tr HB5.out hb6)
          clear hcon hids hb6 HB5 HR5
          have hcon := ints_is (.slice ia ni ic) iS ids ids true (by simp) w6 HR6.out.2 hr
          clear hr
          go_wp2_with fail
          refine (show Calls Try.prog _ _ _ _ from hcon).mono ?_
          rintro e w8 ⟨rfl, hb8⟩
          have HR8 : Hid (RowI w8 (.slice (some ⟨tb, 0, none⟩) nt tc) tabs ∧ RowI w8 (.slice ia ni ic) ids) := Lib.hid ⟨RowF.below HR6.out.1 hb8, RowF.below HR6.out.2 hb8⟩
          have HB8 := Lib.hid (below_tr HB6.out hb8)
          clear hcon hb8 HB6 HR6 k1 k2
          go_wp2_with fail
          go_loopg [12] ni (fun gg s12 wv => ∃ j : Nat, s12 = .int .i64 j ∧ j ≤ ni ∧ ni - j ≤ gg ∧ Hid (Below w.heap.size w wv) ∧ Hid (RowI wv (.slice (some ⟨tb, 0, none⟩) nt tc) tabs ∧ RowI wv (.slice ia ni ic) ids))
          case atStart => exact ⟨0, rfl, Nat.zero_le _, by omega, HB8, HR8⟩
          case round =>
            obtain ⟨j, rfl, hj, hgj, HBj, HRj⟩ := hrel
            clear HB8 HR8
            obtain ⟨wq, hwq⟩ : ∃ wq, wq = wr := ⟨_, rfl⟩
            subst hwq
            by_cases hlt4 : j < ni
            · have hltz4 : (j : Int) < (ni : Int) := by omega
              have HL4 := Lib.hid (And.intro hlt4 (And.intro hj hgj))
              have HHq := Lib.hid (HH.out.below HBj.out)
              have HGq := Lib.hid (HG.out.below HBj.out)
              obtain ⟨ty, hty⟩ : ∃ ty, ids[j]? = some ty := ⟨ids[j]'(by rw [HNI.out]; exact hlt4), by simp [HNI.out, hlt4]⟩
              obtain ⟨ib, rfl⟩ := rI_some HRj.out.2 hty
              have HYI := Lib.hid hty
              have HYW : Hid (I64 ty) := Lib.hid (by
                obtain ⟨q, hq, -, e⟩ := (HID.out.2 ty).1 (List.mem_of_getElem? hty)
                rw [← e]
                exact (HH.out.ok.wf q hq).1.id)
              obtain ⟨k1, k2⟩ := rI_cell HRj.out.1 HXI.out
              obtain ⟨k3, k4⟩ := rI_cell HRj.out.2 hty
              clear hty hj hgj hlt4
              go_upto_region 23 with (fail)
              have mixed : Try.prog.follows Departure.mixedOrders = true := by kernel_rfl
              have HB0 : Hid (Below wq.heap.size wq wq.drew) := Lib.hid (below_drw wq)
              have HR0 : Hid (RowI wq.drew (.slice (some ⟨tb, 0, none⟩) nt tc) tabs ∧ RowI wq.drew (.slice (some ⟨ib, 0, none⟩) ni ic) ids) := Lib.hid ⟨RowF.below HRj.out.1 HB0.out, RowF.below HRj.out.2 HB0.out⟩
              have HS0 : Hid (wq.drew.cell? ⟨tb, i, none⟩ = some (.int .i64 tx) ∧ wq.drew.cell? ⟨ib, j, none⟩ = some (.int .i64 ty)) := Lib.hid ⟨(rI_cell HR0.out.1 HXI.out).2, (rI_cell HR0.out.2 HYI.out).2⟩
              clear k1 k2 k3 k4
              refine RX.wp_region_lastH 10 (fun W => W.cell? ⟨tb, i, none⟩ = some (.int .i64 tx) ∧ W.cell? ⟨ib, j, none⟩ = some (.int .i64 ty)) mixed (by kernel_rfl) ?_
              simp only [List.take_succ_cons, List.take_zero, List.drop_succ_cons, List.drop_zero]
              refine wpAnyH_take (i := 0) (oi := _) (v := .pointer (some ⟨h, 0, none⟩)) rfl (by kernel_rfl) (by kernel_rfl) (by kernel_rfl) (fun _ _ _ h => h) (Or.inl ⟨by rfl, fun w' hw' => ?_⟩) (HS0.out) ?_
              · obtain ⟨j0, j1⟩ := hw'
                go_simp
                try first | with_reducible rfl | simp
              refine wpAnyH_take (i := 1) (oi := _) (v := .slice (some ⟨tb, 0, none⟩) nt tc) rfl (by kernel_rfl) (by kernel_rfl) (by kernel_rfl) (fun _ _ _ h => h) (Or.inl ⟨by rfl, fun w' hw' => ?_⟩) (HS0.out) ?_
              · obtain ⟨j0, j1⟩ := hw'
                go_simp
                try first | with_reducible rfl | simp
              refine wpAnyH_take (i := 2) (oi := _) (v := .int .i64 i) rfl (by kernel_rfl) (by kernel_rfl) (by kernel_rfl) (fun _ _ _ h => h) (Or.inl ⟨by rfl, fun w' hw' => ?_⟩) (HS0.out) ?_
              · obtain ⟨j0, j1⟩ := hw'
                go_simp
                try first | with_reducible rfl | simp
              refine wpAnyH_take (i := 3) (oi := _) (v := .pointer (some ⟨tb, i, none⟩)) rfl (by kernel_rfl) (by kernel_rfl) (by kernel_rfl) (fun _ _ _ h => h) (Or.inl ⟨by rfl, fun w' hw' => ?_⟩) (HS0.out) ?_
              · obtain ⟨j0, j1⟩ := hw'
                go_simp
                try first | with_reducible rfl | simp
              refine wpAnyH_take (i := 4) (oi := _) (v := .int .i64 tx) rfl (by kernel_rfl) (by kernel_rfl) (by kernel_rfl) (fun _ _ _ h => h) (Or.inl ⟨by rfl, fun w' hw' => ?_⟩) (HS0.out) ?_
              · obtain ⟨j0, j1⟩ := hw'
                go_simp
                try first | with_reducible rfl | simp
              refine wpAnyH_take (i := 5) (oi := _) (v := .slice (some ⟨ib, 0, none⟩) ni ic) rfl (by kernel_rfl) (by kernel_rfl) (by kernel_rfl) (fun _ _ _ h => h) (Or.inl ⟨by rfl, fun w' hw' => ?_⟩) (HS0.out) ?_
              · obtain ⟨j0, j1⟩ := hw'
                go_simp
                try first | with_reducible rfl | simp
              refine wpAnyH_take (i := 6) (oi := _) (v := .int .i64 j) rfl (by kernel_rfl) (by kernel_rfl) (by kernel_rfl) (fun _ _ _ h => h) (Or.inl ⟨by rfl, fun w' hw' => ?_⟩) (HS0.out) ?_
              · obtain ⟨j0, j1⟩ := hw'
                go_simp
                try first | with_reducible rfl | simp
              refine wpAnyH_take (i := 7) (oi := _) (v := .pointer (some ⟨ib, j, none⟩)) rfl (by kernel_rfl) (by kernel_rfl) (by kernel_rfl) (fun _ _ _ h => h) (Or.inl ⟨by rfl, fun w' hw' => ?_⟩) (HS0.out) ?_
              · obtain ⟨j0, j1⟩ := hw'
                go_simp
                try first | with_reducible rfl | simp
              refine wpAnyH_take (i := 8) (oi := _) (v := .int .i64 ty) rfl (by kernel_rfl) (by kernel_rfl) (by kernel_rfl) (fun _ _ _ h => h) (Or.inl ⟨by rfl, fun w' hw' => ?_⟩) (HS0.out) ?_
              · obtain ⟨j0, j1⟩ := hw'
                go_simp
                try first | with_reducible rfl | simp
              refine RX.anyH_call (i := 9) (f := 17) (args := #[.pointer (some ⟨h, 0, none⟩), .int .i64 tx, .int .i64 ty]) (by kernel_rfl) rfl (by rfl) (by go_simp) ?_
              refine (show Calls Try.prog _ _ _ _ from one_slots (l := natI (A.slots tx ty)) (HHq.out.below HB0.out) tx ty HXW.out HYW.out HZ.out.1 rfl).mono ?_
              rintro e w4 ⟨sS, rfl, hr, ho, -, hb4⟩
              obtain ⟨sa, sc, rfl, -, -⟩ := hr.form
              obtain ⟨ns, hns⟩ : ∃ ns, (A.slots tx ty).length = ns := ⟨_, rfl⟩
              rw [natI_len, hns] at hr ho ⊢
              have HNS := Lib.hid hns
              have HB4 : Hid (Below wq.heap.size wq w4) := Lib.hid (below_tr HB0.out hb4)
              have hns9 : ns ≤ 1000 := by have e1 := slots_len A tx ty; have e2 := HZ.out.2; omega
              have HR4 := Lib.hid (And.intro (RowF.below HR0.out.1 hb4) (And.intro (RowF.below HR0.out.2 hb4) (show RowI w4 (.slice sa ns sc) (natI (A.slots tx ty)) from hr)))
              have HON := Lib.hid (show ∀ k, Value.ownBlock (.slice sa ns sc) = some k → wq.heap.size ≤ k from fun k hk => Nat.le_trans HB0.out.size (ho k hk))
              have HS4 : Hid (w4.cell? ⟨tb, i, none⟩ = some (.int .i64 tx) ∧ w4.cell? ⟨ib, j, none⟩ = some (.int .i64 ty)) := Lib.hid ⟨(rI_cell HR4.out.1 HXI.out).2, (rI_cell HR4.out.2.1 HYI.out).2⟩
              clear hr ho hb4 hns HB0 HR0 HS0
              refine ⟨_, rfl, HS4.out, ?_⟩
              refine wpAnyH_done (by kernel_rfl) ?_ _
              unfold RX.lastQ
              go_upto_region 24 with (fail)
              have hdr := below_drw w4
              try simp only [List.append_eq, List.cons_append, List.nil_append]
              refine RX.wp_region_plan (fun w w' => Below w.heap.size w w') [.it (.slice sa ns sc), .it (.pointer (some ⟨x, 0, none⟩)), .it (.slice (some ⟨tb, 0, none⟩) nt tc), .it (.int .i64 i), .it (.pointer (some ⟨tb, i, none⟩)), .it (.int .i64 tx), .it (.slice (some ⟨ib, 0, none⟩) ni ic), .it (.int .i64 j), .it (.pointer (some ⟨ib, j, none⟩)), .it (.int .i64 ty), .of ((fun w v => RowI w v (natI (A.slots tx ty)))), .it (.bool true), .it (.bool false)] (by kernel_rfl) (by kernel_rfl) (fun _ => Below.refl _ _) (fun _ _ _ => below_tr) ?_
              refine RX.seqP_value (fun _ => Below.refl _ _) _ (by first | rfl | simp) (fun w' hw' hctx => by (go_simp); (try first | with_reducible rfl | simp)) ?_
              simp only [Act.put, List.setIfInBounds_toArray, List.set_cons_zero, List.set_cons_succ]
              refine RX.seqP_value (fun _ => Below.refl _ _) _ (by first | rfl | simp) (fun w' hw' hctx => by (go_simp); (try first | with_reducible rfl | simp)) ?_
              simp only [Act.put, List.setIfInBounds_toArray, List.set_cons_zero, List.set_cons_succ]
              refine RX.seqP_value (fun _ => Below.refl _ _) _ (by first | rfl | simp) (fun w' hw' hctx => by (go_simp); (try first | with_reducible rfl | simp)) ?_
              simp only [Act.put, List.setIfInBounds_toArray, List.set_cons_zero, List.set_cons_succ]
              refine RX.seqP_value (fun _ => Below.refl _ _) _ (by first | rfl | simp) (fun w' hw' hctx => by (go_simp); (try first | with_reducible rfl | simp)) ?_
              simp only [Act.put, List.setIfInBounds_toArray, List.set_cons_zero, List.set_cons_succ]
              refine RX.seqP_value (fun _ => Below.refl _ _) _ (by first | rfl | simp) (fun w' hw' hctx => by (go_simp); (try first | with_reducible rfl | simp)) ?_
              simp only [Act.put, List.setIfInBounds_toArray, List.set_cons_zero, List.set_cons_succ]
              refine RX.seqP_value (fun _ => Below.refl _ _) _ (by first | rfl | simp) (fun w' hw' hctx => ?_) ?_
              · obtain ⟨k1, k2⟩ := rI_cell (RowF.below HR4.out.1 (below_tr hdr hw')) HXI.out
                obtain ⟨k3, k4⟩ := rI_cell (RowF.below HR4.out.2.1 (below_tr hdr hw')) HYI.out
                go_simp
                try first | with_reducible rfl | simp
              simp only [Act.put, List.setIfInBounds_toArray, List.set_cons_zero, List.set_cons_succ]
              refine RX.seqP_value (fun _ => Below.refl _ _) _ (by first | rfl | simp) (fun w' hw' hctx => by (go_simp); (try first | with_reducible rfl | simp)) ?_
              simp only [Act.put, List.setIfInBounds_toArray, List.set_cons_zero, List.set_cons_succ]
              refine RX.seqP_value (fun _ => Below.refl _ _) _ (by first | rfl | simp) (fun w' hw' hctx => by (go_simp); (try first | with_reducible rfl | simp)) ?_
              simp only [Act.put, List.setIfInBounds_toArray, List.set_cons_zero, List.set_cons_succ]
              refine RX.seqP_value (fun _ => Below.refl _ _) _ (by first | rfl | simp) (fun w' hw' hctx => by (go_simp); (try first | with_reducible rfl | simp)) ?_
              simp only [Act.put, List.setIfInBounds_toArray, List.set_cons_zero, List.set_cons_succ]
              refine RX.seqP_value (fun _ => Below.refl _ _) _ (by first | rfl | simp) (fun w' hw' hctx => ?_) ?_
              · obtain ⟨k1, k2⟩ := rI_cell (RowF.below HR4.out.1 (below_tr hdr hw')) HXI.out
                obtain ⟨k3, k4⟩ := rI_cell (RowF.below HR4.out.2.1 (below_tr hdr hw')) HYI.out
                go_simp
                try first | with_reducible rfl | simp
              simp only [Act.put, List.setIfInBounds_toArray, List.set_cons_zero, List.set_cons_succ]
              refine RX.seqP_callOf (36) #[.pointer (some ⟨x, 0, none⟩), .int .i64 tx, .int .i64 ty] ((fun w v => RowI w v (natI (A.slots tx ty)))) (fun w w' v hb h => h.below hb) (by first | rfl | simp) (fun w' hw' hctx => ?_) (fun w' hw' hctx => ((rslots_is w' x A z1 F (.slice la n lc) gs gl R tx ty (by have := HZ.out.2; omega) (HGq.out.below (below_tr HB4.out (below_tr hdr hw')))).mono fun e w2 ⟨s, he, hr, hb⟩ => ⟨s, he, hb, hr⟩)) (fun u10 => ?_)
              · go_simp
              simp only [Act.put, List.setIfInBounds_toArray, List.set_cons_zero, List.set_cons_succ]
              refine RX.seqP_call (25) #[.slice sa ns sc, u10] (.bool true) (by first | rfl | simp) (fun w' hw' hctx => ?_) (fun w' hw' hctx => ints_is (.slice sa ns sc) u10 _ _ true (by simp) w' (RowF.below HR4.out.2.2 (below_tr hdr hw')) hctx.1) ?_
              · go_simp
              simp only [Act.put, List.setIfInBounds_toArray, List.set_cons_zero, List.set_cons_succ]
              refine RX.seqP_value (fun _ => Below.refl _ _) _ (by first | rfl | simp) (fun w' hw' hctx => by (go_simp); (try first | with_reducible rfl | simp)) ?_
              simp only [Act.put, List.setIfInBounds_toArray, List.set_cons_zero, List.set_cons_succ]
              refine RX.seqP_nil (fun v4 hR hctx _ => ?_)
              have hv4 := below_tr hdr hR
              clear hctx hR
              have HSI : Hid (Si wq.heap.size wq v4 sa ns) := Lib.hid ⟨below_tr HB4.out hv4, fun h0 => by
                have hr := RowF.below HR4.out.2.2 hv4
                obtain ⟨b9, c9, e9, -⟩ := RowF.at hr (j := 0) (by rw [natI_len, HNS.out]; exact h0)
                simp only [Value.slice.injEq] at e9
                obtain ⟨q1, -, -⟩ := e9
                subst q1
                refine ⟨b9, rfl, HON.out b9 rfl, ?_⟩
                rw [natI_len, HNS.out] at hr
                exact Wrt.of hr⟩
              clear hv4 hdr HR4 HON HB4
              go_wp2_with fail
              go_loopg [14] ns (fun gg s14 wv => ∃ k : Nat, s14 = .int .i64 k ∧ k ≤ ns ∧ ns - k ≤ gg ∧ Hid (Si wq.heap.size wq wv sa ns))
              case atStart => exact ⟨0, rfl, Nat.zero_le _, by omega, HSI⟩
              case round =>
                obtain ⟨k, rfl, hk, hgk, HSK⟩ := hrel
                clear HSI
                by_cases hlt5 : k < ns
                · have hltz5 : (k : Int) < (ns : Int) := by omega
                  obtain ⟨b5, rfl, hn5, hw5⟩ := HSK.out.own (by omega)
                  obtain ⟨v5, hc5⟩ := hw5.cell (o := k) (by omega)
                  have hf5 := hw5.fz k
                  have hl5 := hw5.lt
                  have HL5 := Lib.hid (And.intro hlt5 (And.intro hk hgk))
                  clear hw5 hn5 hlt5 hk hgk
                  go_wp2_with fail
                  go_roundg (ns - (k + 1))
                  case measure => have := HL5.out; omega
                  case rel => exact ⟨k + 1, by go_num, by have := HL5.out; omega, Nat.le_refl _, Lib.hid (HSK.out.set (by have := HL5.out; omega) _ _)⟩
                · have hltz5 : ¬ (k : Int) < (ns : Int) := by omega
                  go_wp2_with fail
                  go_roundg (ni - (j + 1))
                  case measure => have := HL4.out; omega
                  case rel => exact ⟨j + 1, by go_num, by have := HL4.out; omega, Nat.le_refl _, Lib.hid (below_tr HBj.out HSK.out.bel), Lib.hid ⟨RowF.below HRj.out.1 HSK.out.bel, RowF.below HRj.out.2 HSK.out.bel⟩⟩
            · have hltz4 : ¬ (j : Int) < (ni : Int) := by omega
              go_wp2_with fail
              go_roundg (nt - (i + 1))
              case measure => have := HL3.out; omega
              case rel => exact ⟨i + 1, by go_num, by have := HL3.out; omega, Nat.le_refl _, HBj, Lib.hid HRj.out.1⟩
        · have hltz3 : ¬ (i : Int) < (nt : Int) := by omega
          go_wp2_with fail
          go_ret
          exact ⟨rfl, HB3.out⟩

end Go.Proofs.Ytkedkeelbbfmkaa
