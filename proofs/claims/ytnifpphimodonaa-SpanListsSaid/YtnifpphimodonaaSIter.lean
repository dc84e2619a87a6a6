/-
  gaps: the iterator over what others leave of a span.
-/
import Derived.Test.YtnifpphimodonaaSFirst
import Derived.Test.YtnifpphimodonaaSGapM
import Derived.RangeFuncBox
import Derived.RangeFuncLeaves
import Derived.Shelf.Abstract
import Derived.WalkKit
import Derived.OwnWalkIn
import Derived.TacticsInMore
import Derived.LoopNIn
import Derived.LoopIn
namespace Go.Proofs.Ytnifpphimodonaa
open Go.RowKit

/-- The search's closure: does one begin behind the span's end? -/
theorem gaps11_is (Bo Bw b o n c k : Nat) (D : Nat → Val) (v : Val) (_hn : n ≤ 1000) (hk : ∀ i, i < n → (k ≤ i ↔ v.u ≤ (D i).n)) (W : World) (i : Nat) (hi : i < n) (hB : W.cell? ⟨Bo, 0, none⟩ = some (.slice (some ⟨b, o, none⟩) n c)) (hv : Boxed W Bw v.k v.n v.u v.t) (hat : AtV W b (o + i * 4) (D i)) :
    Calls Try.prog 38 #[.int .i64 i, .pointer (some ⟨Bo, 0, none⟩), .pointer (some ⟨Bw, 0, none⟩)] W fun e w' => e = .returned (.bool (decide (k ≤ i))) ∧ Below W.heap.size W w' := by
  have hq := hk i hi
  clear hk
  have hiz : (i : Int) < (n : Int) := by omega
  obtain ⟨v0, v1, v2, v3, v4⟩ := hv
  obtain ⟨c0, c1, c2, c3, c4⟩ := hat
  by_cases h : v.u ≤ (D i).n
  · rw [decide_eq_true (hq.2 h)]
    clear hq
    go_enter Try.func38, Try.ntmps38
    go_wp2_with fail
    go_quiet (fail)
    go_wp2_with fail
    go_ret
    exact ⟨rfl, drewN_below _ _⟩
  · rw [decide_eq_false (fun hx => h (hq.1 hx))]
    clear hq
    go_enter Try.func38, Try.ntmps38
    go_wp2_with fail
    go_quiet (fail)
    go_wp2_with fail
    go_ret
    refine ⟨?_, drewN_below _ _⟩
    show Ending.returned (.bool (decide (v.u ≤ (D i).n))) = _
    rw [decide_eq_false (by omega)]

/-- gaps hands back its closure, which has captured the others and the span. -/
theorem gaps_is (v : Val) (a : Option Addr) (n c : Nat) (w : World) :
    Calls Try.prog 34 #[.agg #[.int .u8 v.k, .int .i64 v.n, .int .i64 v.u, .string v.t], .slice a n c] w fun e w' => e = .returned (.func (.func 37) #[] #[.pointer (some ⟨w.heap.size + 1, 0, none⟩), .pointer (some ⟨w.heap.size, 0, none⟩)]) ∧
      w' = (w.alloc (.cells #[.int .u8 v.k, .int .i64 v.n, .int .i64 v.u, .string v.t] 23)).alloc (.cells #[.slice a n c] 34) := by
  go_enter Try.func34, Try.ntmps34
  go_wp2
  go_ret
  exact ⟨rfl, rfl⟩

theorem cell_same {W W' : World} {k : Nat} (h : W'.heap[k]? = W.heap[k]?) (o : Nat) : W'.cell? ⟨k, o, none⟩ = W.cell? ⟨k, o, none⟩ := by
  simp [World.cell?, h]

theorem lt_same {W W' : World} {k : Nat} (h : W'.heap[k]? = W.heap[k]?) (hk : k < W.heap.size) : k < W'.heap.size := by
  rw [Array.getElem?_eq_getElem hk] at h
  exact (Array.getElem?_eq_some_iff.1 h).1

theorem below_same {W W' : World} (h : Below W.heap.size W W') {k : Nat} (hk : k < W.heap.size) : W'.heap[k]? = W.heap[k]? := h.block k hk

theorem AtV.same {W W' : World} {b o : Nat} {v : Val} (h : AtV W b o v) (hs : W'.heap[b]? = W.heap[b]?) : AtV W' b o v := by
  obtain ⟨h0, h1, h2, h3, h4⟩ := h
  exact ⟨by rw [cell_same hs]; exact h0, by rw [cell_same hs]; exact h1, by rw [cell_same hs]; exact h2, by rw [cell_same hs]; exact h3, lt_same hs h4⟩

theorem Boxed.same {W W' : World} {g : Nat} {k n u : Int} {t : ByteArray} (h : Boxed W g k n u t) (hs : W'.heap[g]? = W.heap[g]?) : Boxed W' g k n u t := by
  obtain ⟨h0, h1, h2, h3, h4⟩ := h
  exact ⟨by rw [cell_same hs]; exact h0, by rw [cell_same hs]; exact h1, by rw [cell_same hs]; exact h2, by rw [cell_same hs]; exact h3, lt_same hs h4⟩

/-- What the loop whose turns are asked for promises the iterator. -/
structure Turns (l : Nat) (J : List (Int × Int) → World → Prop) (Safe : World → Nat → Prop) : Prop where
  old : ∀ L W W', J L W → Below W.heap.size W W' → J L W'
  stay : ∀ L W W' k, J L W → Safe W k → Below W.heap.size W W' → Safe W' k
  new : ∀ L W W' k, J L W → Below W.heap.size W W' → W.heap.size ≤ k → k < W'.heap.size → Safe W' k
  lt : ∀ W k, Safe W k → k < W.heap.size
  turn : ∀ L x y W, J L W → L.length ≤ 2000 → YieldAt .wide 0 Try.prog l #[.agg #[.int .u8 4, .int .i64 x, .int .i64 y, .string ⟨#[]⟩]] W fun e W' => e = .returned (.bool true) ∧ J (L ++ [(x, y)]) W' ∧ ∀ k, Safe W k → W'.heap[k]? = W.heap[k]? ∧ Safe W' k

/-- What the iterator leans on between two turns. -/
structure Src (W : World) (Safe : World → Nat → Prop) (Bo Bw g n c : Nat) (D : Nat → Val) (v : Val) : Prop where
  others : W.cell? ⟨Bo, 0, none⟩ = some (.slice (some ⟨g, 0, none⟩) n c)
  span : Boxed W Bw v.k v.n v.u v.t
  row : ∀ i, i < n → AtV W g (i * 4) (D i)
  so : Safe W Bo
  sw : Safe W Bw
  sg : Safe W g

theorem Src.go {W W' : World} {Safe : World → Nat → Prop} {Bo Bw g n c : Nat} {D : Nat → Val} {v : Val} (h : Src W Safe Bo Bw g n c D v) (hk : ∀ k, Safe W k → W'.heap[k]? = W.heap[k]? ∧ Safe W' k) : Src W' Safe Bo Bw g n c D v :=
  ⟨by rw [cell_same (hk _ h.so).1]; exact h.others, h.span.same (hk _ h.sw).1, fun i hi => (h.row i hi).same (hk _ h.sg).1, (hk _ h.so).2, (hk _ h.sw).2, (hk _ h.sg).2⟩

theorem Turns.keeps {l : Nat} {J : List (Int × Int) → World → Prop} {Safe : World → Nat → Prop} (ht : Turns l J Safe) {L : List (Int × Int)} {W W' : World} (hJ : J L W) (hb : Below W.heap.size W W') : ∀ k, Safe W k → W'.heap[k]? = W.heap[k]? ∧ Safe W' k :=
  fun k hk => ⟨hb.block k (ht.lt W k hk), ht.stay L W W' k hJ hk hb⟩

theorem gapAt_len (D : Nat → Val) (lo : Int) (i : Nat) : (gapAt D lo i).2.length ≤ i := by
  induction i with
  | zero => exact Nat.le_refl 0
  | succ i ih =>
    show (if (gapAt D lo i).1 < (D i).n then (gapAt D lo i).2 ++ [((gapAt D lo i).1, (D i).n)] else (gapAt D lo i).2).length ≤ i + 1
    split
    · simp; exact ih
    · omega

section
attribute [local go_sem] Oper.semAt_some

set_option maxRecDepth 100000 in
set_option maxHeartbeats 2000000 in
theorem gaps1_row (l Bo Bw g n c k : Nat) (D : Nat → Val) (v : Val) (J : List (Int × Int) → World → Prop) (Safe : World → Nat → Prop) (ht : Turns l J Safe) (hn : n ≤ 1000) (hnc : n ≤ c) (hkn : k ≤ n) (hk : ∀ i, i < n → (k ≤ i ↔ v.u ≤ (D i).n)) (W : World) (hJ : J [] W) (hs : Src W Safe Bo Bw g n c D v) :
    CallsIn .wide 1 Try.prog 37 #[.func (.yield l) #[] #[], .pointer (some ⟨Bo, 0, none⟩), .pointer (some ⟨Bw, 0, none⟩)] W fun e W' => (∃ x, e = .returned x) ∧ J (gapEnd (gapAt D v.n k).1 v.u (gapAt D v.n k).2) W' := by
  have eg : ∀ args w, (callFunc 38 args).run Try.prog w = .ok (.enter 38 args) w := enters_of Try.func38 (by kernel_rfl) rfl
  have hsr := search_is 38 #[.pointer (some ⟨Bo, 0, none⟩), .pointer (some ⟨Bw, 0, none⟩)] n k W eg hn hkn (fun V t hV ht' =>
    gaps11_is Bo Bw g 0 n c k D v hn hk V t ht' (by rw [hV.cell (p := ⟨Bo, 0, none⟩) (ht.lt _ _ hs.so)]; exact hs.others) (hs.span.below hV) (by rw [Nat.zero_add]; exact (hs.row t ht').below hV))
  have hc := hs.others
  have HS := Lib.hid hs
  have HJ := Lib.hid hJ
  have HT := Lib.hid ht
  have HK := Lib.hid hk
  clear hs hJ ht hk
  refine callsIn_of_wp Try.func37 rfl trivial ?_ rfl
  simp only [Try.ntmps37, List.size_toArray, List.length_cons, List.length_nil, Nat.reduceAdd, Nat.reduceSub, Array.replicate_succ, Array.replicate_zero, List.push_toArray, List.append_toArray, List.nil_append, List.cons_append]
  gi_wp2_with fail
  refine ⟨trivial, (callsIn_wide.2 hsr).mono ?_⟩
  rintro e W1 ⟨rfl, hb1⟩
  have hs1 := HS.out.go (HT.out.keeps HJ.out hb1)
  have HS1 := Lib.hid hs1
  have HJ1 := Lib.hid (HT.out.old _ _ _ HJ.out hb1)
  obtain ⟨v0, v1, v2, v3, v4⟩ := hs1.span
  have hc1 := hs1.others
  have hkz : (k : Int) ≤ (n : Int) := by omega
  have hkc : (k : Int) ≤ (c : Int) := by omega
  clear hsr hc hs1 hb1 HS HJ
  gi_wp2_with fail
  gi_loopw [5, 7, 18] (fun f bx i wr => ∃ t : Nat, t ≤ k ∧ f = .int .i64 (gapAt D v.n t).1 ∧ i = .int .i64 t ∧ Hid (J (gapAt D v.n t).2 wr) ∧ Hid (Src wr Safe Bo Bw g n c D v)) (fun _ _ i _ => k - (intOf i).toNat)
  case atStart => exact ⟨0, Nat.zero_le _, rfl, rfl, HJ1, HS1⟩
  case round =>
    obtain ⟨t, htk, rfl, rfl, HJt, HSt⟩ := hrel
    clear v0 v1 v2 v3 v4 hc1 HS1 HJ1
    by_cases hlt : t < k
    · have hltz : (t : Int) < (k : Int) := by omega
      obtain ⟨f, hf⟩ : ∃ f, (gapAt D v.n t).1 = f := ⟨_, rfl⟩
      obtain ⟨x, hx⟩ : ∃ x, D t = x := ⟨_, rfl⟩
      have hat := HSt.out.row t (by omega)
      rw [hf]
      rw [hx] at hat
      have hnew := Boxed.new wr x.k x.n x.u x.t 23
      have hal := Below.allocs wr (.cells #[.int .u8 x.k, .int .i64 x.n, .int .i64 x.u, .string x.t] 23)
      have hsz : (wr.alloc (.cells #[.int .u8 x.k, .int .i64 x.n, .int .i64 x.u, .string x.t] 23)).heap.size = wr.heap.size + 1 := by simp
      have HF := Lib.hid hf
      have HO := Lib.hid hx
      have HW1 := Lib.hid (HT.out.old _ _ _ HJt.out hal)
      have HSW1 := Lib.hid (HSt.out.go (HT.out.keeps HJt.out hal))
      have HSN := Lib.hid (HT.out.new _ _ _ wr.heap.size HJt.out hal (Nat.le_refl _) (by rw [hsz]; omega))
      have HNEW := Lib.hid hnew
      have HL := Lib.hid (gapAt_len D v.n t)
      obtain ⟨c0, c1, c2, c3, c4⟩ := hat
      clear hf hx hnew hal hsz
      by_cases hgap : f < x.n
      · have hof := fun W => of_is f x.n W
        gi_wp2_with fail
        refine ⟨trivial, (callsIn_wide.2 (hof _)).mono ?_⟩
        rintro e W2 ⟨rfl, hb2⟩
        have HJ2 := Lib.hid (HT.out.old _ _ _ HW1.out hb2)
        have hkp := HT.out.keeps HW1.out hb2
        have HS2 := Lib.hid (HSW1.out.go hkp)
        have HN2 := Lib.hid (HNEW.out.same (hkp _ HSN.out).1)
        have HSN2 := Lib.hid (hkp _ HSN.out).2
        obtain ⟨fn, tmps, assign, body, hy, hR⟩ := HT.out.turn _ f x.n W2 HJ2.out (by have := HL.out; omega)
        clear c0 c1 c2 c3 c4 hkp hb2 hof
        gi_wp2_with fail
        refine hR.mono ?_
        rintro e W3 ⟨rfl, hJ3, hk3⟩
        have HS3 := Lib.hid (HS2.out.go hk3)
        have hN3 := HN2.out.same (hk3 _ HSN2.out).1
        obtain ⟨n0, n1, n2, n3, n4⟩ := hN3
        have HJ3 : Hid (J (gapAt D v.n (t + 1)).2 W3) := Lib.hid (by
          show J (if (gapAt D v.n t).1 < (D t).n then (gapAt D v.n t).2 ++ [((gapAt D v.n t).1, (D t).n)] else (gapAt D v.n t).2) W3
          rw [HF.out, HO.out, if_pos hgap]; exact hJ3)
        clear hy hR hk3 hJ3
        by_cases hm : f < x.u
        · gi_wp2_with fail
          go_roundw
          case rel =>
            refine ⟨t + 1, by omega, ?_, by simp, HJ3, HS3⟩
            show _ = Value.int .i64 (max (gapAt D v.n t).1 (D t).u)
            rw [HF.out, HO.out, Int.max_eq_right (by omega)]
          case measure => simp [intOf]; omega
        · gi_wp2_with fail
          go_roundw
          case rel =>
            refine ⟨t + 1, by omega, ?_, by simp, HJ3, HS3⟩
            show _ = Value.int .i64 (max (gapAt D v.n t).1 (D t).u)
            rw [HF.out, HO.out, Int.max_eq_left (by omega)]
          case measure => simp [intOf]; omega
      · have HJ3 : Hid (J (gapAt D v.n (t + 1)).2 (wr.alloc (.cells #[.int .u8 x.k, .int .i64 x.n, .int .i64 x.u, .string x.t] 23))) := Lib.hid (by
          show J (if (gapAt D v.n t).1 < (D t).n then (gapAt D v.n t).2 ++ [((gapAt D v.n t).1, (D t).n)] else (gapAt D v.n t).2) _
          rw [HF.out, HO.out, if_neg hgap]; exact HW1.out)
        have hB := HNEW.out
        obtain ⟨n0, n1, n2, n3, n4⟩ := hB
        gi_wp2_with fail
        refine ⟨trivial, ?_⟩
        gi_wp2_with fail
        refine ⟨fun _ h => (by cases h), ?_⟩
        by_cases hm : f < x.u
        · gi_wp2_with fail
          go_roundw
          case rel =>
            refine ⟨t + 1, by omega, ?_, by simp, HJ3, HSW1⟩
            show _ = Value.int .i64 (max (gapAt D v.n t).1 (D t).u)
            rw [HF.out, HO.out, Int.max_eq_right (by omega)]
          case measure => simp [intOf]; omega
        · gi_wp2_with fail
          go_roundw
          case rel =>
            refine ⟨t + 1, by omega, ?_, by simp, HJ3, HSW1⟩
            show _ = Value.int .i64 (max (gapAt D v.n t).1 (D t).u)
            rw [HF.out, HO.out, Int.max_eq_left (by omega)]
          case measure => simp [intOf]; omega
    · obtain rfl : t = k := by omega
      have hltz : ¬ (t : Int) < (t : Int) := by omega
      obtain ⟨f, hf⟩ : ∃ f, (gapAt D v.n t).1 = f := ⟨_, rfl⟩
      rw [hf]
      obtain ⟨v0, v1, v2, v3, v4⟩ := HSt.out.span
      have HL := Lib.hid (gapAt_len D v.n t)
      by_cases hgap : f < v.u
      · have hof := fun W => of_is f v.u W
        have he : gapEnd f v.u (gapAt D v.n t).2 = (gapAt D v.n t).2 ++ [(f, v.u)] := if_pos hgap
        have HE := Lib.hid he
        have HF := Lib.hid hf
        clear hf he
        gi_wp2_with fail
        refine ⟨trivial, (callsIn_wide.2 (hof _)).mono ?_⟩
        rintro e W2 ⟨rfl, hb2⟩
        have HJ2 := Lib.hid (HT.out.old _ _ _ HJt.out hb2)
        obtain ⟨fn, tmps, assign, body, hy, hR⟩ := HT.out.turn _ f v.u W2 HJ2.out (by have := HL.out; omega)
        clear hb2 hof v0 v1 v2 v3 v4
        gi_wp2_with fail
        refine hR.mono ?_
        rintro e W3 ⟨rfl, hJ3, -⟩
        gi_wp2_with fail
        go_end0
        refine ⟨⟨_, rfl⟩, ?_⟩
        rw [HF.out, HE.out]
        exact hJ3
      · have he : gapEnd f v.u (gapAt D v.n t).2 = (gapAt D v.n t).2 := if_neg hgap
        have HE := Lib.hid he
        have HF := Lib.hid hf
        clear hf he
        gi_wp2_with fail
        go_end0
        refine ⟨⟨_, rfl⟩, ?_⟩
        rw [HF.out, HE.out]
        exact HJt.out
end

end Go.Proofs.Ytnifpphimodonaa
