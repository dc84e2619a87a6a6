/-
  sort.Search by a closure that may make memory; package span's First.
-/
import Derived.Test.YtnifpphimodonaaSAny
namespace Go.Proofs.Ytnifpphimodonaa
open Go.RowKit

/-- Where a test that stays true turns true. -/
theorem turns_at (q : Nat → Prop) (n : Nat) (hm : ∀ i j, i ≤ j → j < n → q i → q j) : ∃ k, k ≤ n ∧ ∀ i, i < n → (k ≤ i ↔ q i) := by
  induction n with
  | zero => exact ⟨0, Nat.le_refl _, fun i hi => absurd hi (Nat.not_lt_zero _)⟩
  | succ n ih =>
    obtain ⟨k, hk, h⟩ := ih fun i j hij hj => hm i j hij (by omega)
    rcases Nat.lt_or_ge k n with hkn | hkn
    · refine ⟨k, by omega, fun i hi => ?_⟩
      rcases Nat.lt_succ_iff_lt_or_eq.1 hi with h1 | rfl
      · exact h i h1
      · exact ⟨fun _ => hm k i (by omega) hi ((h k hkn).1 (Nat.le_refl _)), fun _ => by omega⟩
    · obtain rfl : k = n := by omega
      by_cases hq : q k
      · refine ⟨k, by omega, fun i hi => ?_⟩
        rcases Nat.lt_succ_iff_lt_or_eq.1 hi with h1 | rfl
        · exact h i h1
        · exact ⟨fun _ => hq, fun _ => Nat.le_refl _⟩
      · refine ⟨k + 1, Nat.le_refl _, fun i hi => ?_⟩
        rcases Nat.lt_succ_iff_lt_or_eq.1 hi with h1 | rfl
        · rw [← h i h1]; omega
        · exact ⟨fun h => by omega, fun h => absurd h hq⟩

set_option maxRecDepth 100000 in
set_option maxHeartbeats 2000000 in
theorem search_is (f : Nat) (cb : Array Value) (n k : Nat) (w : World) (eg : ∀ args w, (callFunc f args).run Try.prog w = .ok (.enter f args) w) (hn : n ≤ 1000) (hk : k ≤ n)
    (hf : ∀ (W : World) (i : Nat), Below w.heap.size w W → i < n → Calls Try.prog f (#[.int .i64 i] ++ cb) W fun e w' => e = .returned (.bool (decide (k ≤ i))) ∧ Below W.heap.size W w') :
    Calls Try.prog 27 #[.int .i64 n, .func (.func f) #[] cb] w fun e w' => e = .returned (.int .i64 k) ∧ Below w.heap.size w w' := by
  have HF := Lib.hid hf
  clear hf
  go_enter Try.func27, Try.ntmps27
  go_wp2
  go_loopg [5, 6] n (fun gg s5 s6 wr => ∃ lo hi : Nat, s5 = .int .i64 lo ∧ s6 = .int .i64 hi ∧ lo ≤ k ∧ k ≤ hi ∧ hi ≤ n ∧ hi - lo ≤ gg ∧ Hid (Below w.heap.size w wr))
  case atStart => exact ⟨0, n, rfl, rfl, Nat.zero_le _, hk, Nat.le_refl _, by omega, Lib.hid (Below.refl _ _)⟩
  case round =>
    obtain ⟨lo, hi, rfl, rfl, hl, hh, hin, hg, BW⟩ := hrel
    by_cases hlt : lo < hi
    · have hc := HF.out wr ((lo + hi) / 2) BW.out (by omega)
      rw [show (((lo + hi) / 2 : Nat) : Int) = ((lo : Int) + (hi : Int)) / 2 by omega] at hc
      by_cases hq : k ≤ (lo + hi) / 2
      · rw [decide_eq_true hq] at hc
        go_wp2_with (go_at_fn f; refine hc.mono ?_; rintro e w' ⟨rfl, hb⟩)
        go_roundg ((lo + hi) / 2 - lo)
        case measure => omega
        case rel => exact ⟨lo, (lo + hi) / 2, rfl, by rw [show ((lo : Int) + (hi : Int)) / 2 = (((lo + hi) / 2 : Nat) : Int) by omega], hl, hq, by omega, Nat.le_refl _, Lib.hid (below_tr BW.out hb)⟩
      · rw [decide_eq_false hq] at hc
        go_wp2_with (go_at_fn f; refine hc.mono ?_; rintro e w' ⟨rfl, hb⟩)
        go_roundg (hi - ((lo + hi) / 2 + 1))
        case measure => omega
        case rel => exact ⟨(lo + hi) / 2 + 1, hi, by rw [show ((lo : Int) + (hi : Int)) / 2 + 1 = (((lo + hi) / 2 + 1 : Nat) : Int) by omega], rfl, by omega, hh, hin, Nat.le_refl _, Lib.hid (below_tr BW.out hb)⟩
    · obtain rfl : k = lo := by omega
      obtain rfl : hi = k := by omega
      go_wp2
      go_ret
      exact ⟨rfl, BW.out⟩

/-- First's closure for the search: do any two of the first i + 1 meet? -/
theorem first1_is (B b o n c k : Nat) (D : Nat → Val) (hn : n ≤ 1000) (hnc : n ≤ c) (hcm : c ≤ 9223372036854775807) (hk : ∀ i, i < n → (k ≤ i ↔ anyS D (i + 1))) (W : World) (i : Nat) (hi : i < n) (hB : W.cell? ⟨B, 0, none⟩ = some (.slice (some ⟨b, o, none⟩) n c)) (hat : ∀ i, i < n → AtV W b (o + i * 4) (D i)) :
    Calls Try.prog 28 #[.int .i64 i, .pointer (some ⟨B, 0, none⟩)] W fun e w' => e = .returned (.bool (decide (k ≤ i))) ∧ Below W.heap.size W w' := by
  have hcon := any_is b o (i + 1) c D W (by omega) (fun t ht => hat t (by omega)) (decide (k ≤ i)) (by rw [decide_eq_true_iff]; exact hk i hi)
  clear hat hk
  generalize decide (k ≤ i) = r at hcon ⊢
  have z1 : ¬ ((i : Int) + 1 < 0) := by omega
  have z2 : ((i : Int) + 1 ≤ (c : Int)) := by omega
  go_enter Try.func28, Try.ntmps28
  go_wp2_with fail
  refine hcon.mono ?_
  rintro e w1 ⟨rfl, hb⟩
  go_wp2_with fail
  go_ret
  exact ⟨rfl, hb⟩

set_option maxRecDepth 100000 in
set_option maxHeartbeats 1000000 in
/-- First's closure for the place: does a value meet the second one? -/
theorem first2_is (B S b o n c k : Nat) (x : Val) (hk : k < n) (_hn : n ≤ 1000) (v : Val) (W : World) (hB : W.cell? ⟨B, 0, none⟩ = some (.slice (some ⟨b, o, none⟩) n c)) (hS : W.cell? ⟨S, 0, none⟩ = some (.int .i64 k)) (hBS : B < W.heap.size ∧ S < W.heap.size) (hx : AtV W b (o + k * 4) x) :
    Calls Try.prog 31 #[.agg #[.int .u8 v.k, .int .i64 v.n, .int .i64 v.u, .string v.t], .pointer (some ⟨B, 0, none⟩), .pointer (some ⟨S, 0, none⟩)] W fun e w' => e = .returned (.bool (meetS v x)) ∧ Below W.heap.size W w' := by
  obtain ⟨W1, g, hW1, hg, B1, hb1, hs⟩ := boxX W v
  have HV := Lib.hid B1
  have HX := Lib.hid (hx.below hb1)
  have HBS : Hid (B < W1.heap.size ∧ W1.cell? ⟨B, 0, none⟩ = some (.slice (some ⟨b, o, none⟩) n c) ∧ S < W1.heap.size ∧ W1.cell? ⟨S, 0, none⟩ = some (.int .i64 k)) := Lib.hid ⟨Nat.lt_of_lt_of_le hBS.1 hb1.size, by rw [hb1.cell (p := ⟨B, 0, none⟩) hBS.1]; exact hB, Nat.lt_of_lt_of_le hBS.2 hb1.size, by rw [hb1.cell (p := ⟨S, 0, none⟩) hBS.2]; exact hS⟩
  have z1 : (k : Int) < (n : Int) := by omega
  have z2 : ¬ n ≤ k := by omega
  clear hB hS hBS hx B1 hs
  go_enter Try.func31, Try.ntmps31
  go_wp2_with fail
  have hdr := below_drw W1
  try simp only [List.append_eq, List.cons_append, List.nil_append]
  refine RX.wp_region_plan (fun w w' => Below w.heap.size w w') [.it (.agg #[.int .u8 v.k, .int .i64 v.n, .int .i64 v.u, .string v.t]), .it (.slice (some ⟨b, o, none⟩) n c), .it (.int .i64 k), .it (.pointer (some ⟨b, o + k * 4, none⟩)), .it (.agg #[.int .u8 x.k, .int .i64 x.n, .int .i64 x.u, .string x.t]), .it (.bool (meetS v x)), .it (.bool (meetS v x))] (by kernel_rfl) (by kernel_rfl) (fun _ => Below.refl _ _) (fun _ _ _ => below_tr) ?_
  refine RX.seqP_value (fun _ => Below.refl _ _) _ (by first | rfl | simp) (fun w' hw' hctx => ?_) ?_
  · obtain ⟨c0, c1, c2, c3, c4⟩ := HV.out.below (below_tr hdr hw')
    go_simp
    try first | with_reducible rfl | simp
  simp only [Act.put, List.setIfInBounds_toArray, List.set_cons_zero, List.set_cons_succ]
  refine RX.seqP_value (fun _ => Below.refl _ _) _ (by first | rfl | simp) (fun w' hw' hctx => ?_) ?_
  · have c0 := ((below_tr hdr hw').cell (p := ⟨B, 0, none⟩) HBS.out.1).trans HBS.out.2.1
    go_simp
    try first | with_reducible rfl | simp
  simp only [Act.put, List.setIfInBounds_toArray, List.set_cons_zero, List.set_cons_succ]
  refine RX.seqP_value (fun _ => Below.refl _ _) _ (by first | rfl | simp) (fun w' hw' hctx => ?_) ?_
  · have c0 := ((below_tr hdr hw').cell (p := ⟨S, 0, none⟩) HBS.out.2.2.1).trans HBS.out.2.2.2
    go_simp
    try first | with_reducible rfl | simp
  simp only [Act.put, List.setIfInBounds_toArray, List.set_cons_zero, List.set_cons_succ]
  refine RX.seqP_value (fun _ => Below.refl _ _) _ (by first | rfl | simp) (fun w' hw' hctx => by (go_simp); (try first | with_reducible rfl | simp)) ?_
  simp only [Act.put, List.setIfInBounds_toArray, List.set_cons_zero, List.set_cons_succ]
  refine RX.seqP_value (fun _ => Below.refl _ _) _ (by first | rfl | simp) (fun w' hw' hctx => ?_) ?_
  · obtain ⟨c0, c1, c2, c3, c4⟩ := HX.out.below (below_tr hdr hw')
    go_simp
    try first | with_reducible rfl | simp
  simp only [Act.put, List.setIfInBounds_toArray, List.set_cons_zero, List.set_cons_succ]
  refine RX.seqP_call (18) #[.agg #[.int .u8 v.k, .int .i64 v.n, .int .i64 v.u, .string v.t], .agg #[.int .u8 x.k, .int .i64 x.n, .int .i64 x.u, .string x.t]] (.bool (meetS v x)) (by first | rfl | simp) (fun w' hw' hctx => ?_) (fun w' hw' hctx => meets_is v x _ rfl w') ?_
  · go_simp
  simp only [Act.put, List.setIfInBounds_toArray, List.set_cons_zero, List.set_cons_succ]
  refine RX.seqP_value (fun _ => Below.refl _ _) _ (by first | rfl | simp) (fun w' hw' hctx => by (go_simp); (try first | with_reducible rfl | simp)) ?_
  simp only [Act.put, List.setIfInBounds_toArray, List.set_cons_zero, List.set_cons_succ]
  refine RX.seqP_nil (fun v1 hR hctx _ => ?_)
  have hv1 := below_tr hdr hR
  clear hctx hR
  go_wp2_with fail
  go_ret
  exact ⟨rfl, below_tr hb1 hv1⟩

theorem FirstS.search {D : Nat → Val} {n i k : Nat} (h : FirstS D n i k true) : k < n ∧ i < k ∧ ∀ t, t < n → (k ≤ t ↔ anyS D (t + 1)) := by
  rcases h with ⟨_, h1, h2, h3, h4, h5⟩ | ⟨h, _⟩
  · refine ⟨h2, h1, fun t ht => ⟨fun hk => ⟨k, i, h1, by omega, h3⟩, ?_⟩⟩
    rintro ⟨a, b, ha, hb, hm⟩
    rcases Nat.lt_or_ge a k with h | h
    · rw [h5 a b ha h] at hm; cases hm
    · omega
  · cases h

theorem FirstS.nosearch {D : Nat → Val} {n i k : Nat} (h : FirstS D n i k false) : i = 0 ∧ k = 0 ∧ ∀ t, t < n → (n ≤ t ↔ anyS D (t + 1)) := by
  rcases h with ⟨h, _⟩ | ⟨_, h1, h2, h3⟩
  · cases h
  · refine ⟨h1, h2, fun t ht => ⟨fun hk => by omega, ?_⟩⟩
    rintro ⟨a, b, ha, hb, hm⟩
    rw [h3 a b ha (by omega)] at hm
    cases hm

theorem FirstS.exists (D : Nat → Val) (n : Nat) : ∃ i k is, FirstS D n i k is := by
  obtain ⟨k, hk, h⟩ := turns_at (fun t => anyS D (t + 1)) n (fun i j hij _ h => h.mono (by omega))
  rcases Nat.lt_or_ge k n with hkn | hkn
  · have h1 := (h k hkn).1 (Nat.le_refl _)
    have h0 : ¬ anyS D k := by
      intro ha
      cases k with
      | zero => obtain ⟨a, b, _, h, _⟩ := ha; omega
      | succ k => have := (h k (by omega)).2 ha; omega
    obtain ⟨i, hi, hin⟩ := turns_at (fun t => ∃ s, s ≤ t ∧ meetS (D s) (D k) = true) n (fun i j hij _ ⟨s, hs, hm⟩ => ⟨s, by omega, hm⟩)
    have hin' : i < n := by
      rcases Nat.lt_or_ge i n with h | h
      · exact h
      · obtain ⟨a, b, h2, h3, h4⟩ := h1
        have ha : a = k := by
          rcases Nat.lt_or_ge a k with hx | hx
          · exact (h0 ⟨a, b, h2, hx, h4⟩).elim
          · omega
        subst ha
        have := (hin b (by omega)).2 ⟨b, Nat.le_refl _, h4⟩
        omega
    have hno : ∀ a, a < i → meetS (D a) (D k) = false := fun a ha => by
      cases e : meetS (D a) (D k)
      · rfl
      · have := (hin a (by omega)).2 ⟨a, Nat.le_refl _, e⟩; omega
    obtain ⟨s, hs, hm⟩ := (hin i hin').1 (Nat.le_refl _)
    have : s = i := by
      rcases Nat.lt_or_ge s i with hx | hx
      · rw [hno s hx] at hm; cases hm
      · omega
    subst this
    exact ⟨s, k, true, FirstS.some hkn h0 h1 hno hm⟩
  · refine ⟨0, 0, false, FirstS.none fun ha => ?_⟩
    cases n with
    | zero => obtain ⟨a, b, _, h, _⟩ := ha; omega
    | succ n => have := (h n (by omega)).2 ha; omega

/-- n values that a slice holds. -/
structure SlV (W : World) (a : Option Addr) (n c : Nat) (D : Nat → Val) : Prop where
  nc : n ≤ c
  cm : c ≤ 9223372036854775807
  small : n ≤ 1000
  at' : 0 < n → ∃ b o, a = some ⟨b, o, none⟩ ∧ ∀ i, i < n → AtV W b (o + i * 4) (D i)

theorem SlV.below {W W' : World} {a : Option Addr} {n c : Nat} {D : Nat → Val} (h : SlV W a n c D) (hb : Below W.heap.size W W') : SlV W' a n c D :=
  ⟨h.nc, h.cm, h.small, fun hl => by obtain ⟨b, o, e, hx⟩ := h.at' hl; exact ⟨b, o, e, fun i hi => (hx i hi).below hb⟩⟩

/-- A new variable's block, by name. -/
theorem boxC (w : World) (v : Value) (t : TypeId) : ∃ W, w.alloc (.cells #[v] t) = W ∧ W.cell? ⟨w.heap.size, 0, none⟩ = some v ∧ Below w.heap.size w W ∧ w.heap.size < W.heap.size :=
  ⟨_, rfl, by rw [World.cell?_alloc_at _ _ _ _ (by simp)]; rfl, Below.allocs w _, by simp⟩

set_option maxRecDepth 100000 in
set_option maxHeartbeats 1000000 in
theorem first_f (a : Option Addr) (n c : Nat) (D : Nat → Val) (i k : Nat) (w : World) (hl : SlV w a n c D) (hF : FirstS D n i k false) :
    Calls Try.prog 20 #[.slice a n c] w fun e w' => e = .returned (.tuple #[.int .i64 i, .int .i64 k, .bool false]) ∧ Below w.heap.size w w' := by
  obtain ⟨rfl, rfl, hs⟩ := hF.nosearch
  have eg : ∀ args w, (callFunc 28 args).run Try.prog w = .ok (.enter 28 args) w := enters_of Try.func28 (by kernel_rfl) rfl
  obtain ⟨W, hW, hc, hb, hlt⟩ := boxC w (.slice a n c) 34
  have hsr := search_is 28 #[.pointer (some ⟨w.heap.size, 0, none⟩)] n n W eg hl.small (Nat.le_refl _) (fun V t hV ht => by
    obtain ⟨b, o, rfl, hat⟩ := (hl.below hb).at' (by omega)
    exact first1_is w.heap.size b o n c n D hl.small hl.nc hl.cm hs V t ht (by rw [hV.cell (p := ⟨w.heap.size, 0, none⟩) hlt]; exact hc) (fun i hi => (hat i hi).below hV))
  have HB := Lib.hid hb
  have HL := Lib.hid hlt
  have HC := Lib.hid hc
  clear hl hs hF hb hlt
  go_enter Try.func20, Try.ntmps20
  go_wp2_with fail
  refine hsr.mono ?_
  rintro e w1 ⟨rfl, hb1⟩
  have hc1 := (hb1.cell (p := ⟨w.heap.size, 0, none⟩) HL.out).trans HC.out
  have hw1 := below_tr HB.out hb1
  have hlt1 := Nat.lt_of_lt_of_le HL.out hb1.size
  clear hsr hc
  go_wp2_with fail
  exact bodyPost_ret (v := .tuple #[.int .i64 0, .int .i64 0, .bool false]) (by simp [results, Try.results20, go_sem]) rfl ⟨rfl, hw1.alloc hw1.size _⟩

set_option maxRecDepth 100000 in
set_option maxHeartbeats 1000000 in
theorem first_t (a : Option Addr) (n c : Nat) (D : Nat → Val) (i k : Nat) (w : World) (hl : SlV w a n c D) (hF : FirstS D n i k true) :
    Calls Try.prog 20 #[.slice a n c] w fun e w' => e = .returned (.tuple #[.int .i64 i, .int .i64 k, .bool true]) ∧ Below w.heap.size w w' := by
  obtain ⟨hkn, hik, hs⟩ := hF.search
  have eg : ∀ args w, (callFunc 28 args).run Try.prog w = .ok (.enter 28 args) w := enters_of Try.func28 (by kernel_rfl) rfl
  have eg2 : ∀ args w, (callFunc 31 args).run Try.prog w = .ok (.enter 31 args) w := enters_of Try.func31 (by kernel_rfl) rfl
  obtain ⟨b, o, rfl, hat⟩ := hl.at' (by omega)
  obtain ⟨W, hW, hc, hb, hlt⟩ := boxC w (.slice (some ⟨b, o, none⟩) n c) 34
  have hsr := search_is 28 #[.pointer (some ⟨w.heap.size, 0, none⟩)] n k W eg hl.small (by omega) (fun V t hV ht => by
    exact first1_is w.heap.size b o n c k D hl.small hl.nc hl.cm hs V t ht (by rw [hV.cell (p := ⟨w.heap.size, 0, none⟩) hlt]; exact hc) (fun i hi => ((hat i hi).below hb).below hV))
  have HB := Lib.hid hb
  have HL := Lib.hid hlt
  have HC := Lib.hid hc
  have HSM := Lib.hid hl.small
  have HAT := Lib.hid (fun i hi => (hat i hi).below hb)
  have hkd : ((k : Int) == (n : Int)) = false := beq_eq_false_iff_ne.2 (by omega)
  have HF := Lib.hid hF
  have HK := Lib.hid (And.intro hkn hik)
  clear hl hs hF hb hlt hat hkn hik
  go_enter Try.func20, Try.ntmps20
  go_wp2_with fail
  refine hsr.mono ?_
  rintro e w1 ⟨rfl, hb1⟩
  obtain ⟨W2, hW2, hc2, hb2, hlt2⟩ := boxC w1 (.int .i64 k) 3
  have hA := below_tr hb1 hb2
  have hcB : W2.cell? ⟨w.heap.size, 0, none⟩ = some (.slice (some ⟨b, o, none⟩) n c) := (hA.cell (p := ⟨w.heap.size, 0, none⟩) HL.out).trans HC.out
  have hcB1 : w1.cell? ⟨w.heap.size, 0, none⟩ = some (.slice (some ⟨b, o, none⟩) n c) := (hb1.cell (p := ⟨w.heap.size, 0, none⟩) HL.out).trans HC.out
  have hltB : w.heap.size < W2.heap.size := Nat.lt_of_lt_of_le HL.out hA.size
  have hltB1 : w.heap.size < w1.heap.size := Nat.lt_of_lt_of_le HL.out hb1.size
  have hat2 : ∀ i, i < n → AtV W2 b (o + i * 4) (D i) := fun i hi => (HAT.out i hi).below hA
  have hix := index_is 31 #[.pointer (some ⟨w.heap.size, 0, none⟩), .pointer (some ⟨w1.heap.size, 0, none⟩)] (fun v => meetS v (D k)) eg2 b o n c D W2 HSM.out
    (fun V x hV => (first2_is w.heap.size w1.heap.size b o n c k (D k) HK.out.1 HSM.out x V ((hV.cell (p := ⟨w.heap.size, 0, none⟩) hltB).trans hcB) ((hV.cell (p := ⟨w1.heap.size, 0, none⟩) hlt2).trans hc2) ⟨Nat.lt_of_lt_of_le hltB hV.size, Nat.lt_of_lt_of_le hlt2 hV.size⟩ ((hat2 k HK.out.1).below hV)).mono fun e w' ⟨he, hb'⟩ => ⟨he, hV.trans (hb'.mono hV.size)⟩)
    (hat2 k HK.out.1).2.2.2.2 hat2
  have HW2 := Lib.hid hW2
  have HC2 := Lib.hid (And.intro hc2 hlt2)
  have HA := Lib.hid (below_tr HB.out hA)
  clear hsr hc hW2 hc2 hlt2 hcB hltB hat2 hA hb2 hb1
  go_wp2_with fail
  rw [HW2.out]
  refine hix.mono ?_
  rintro e w3 ⟨kk, rfl, hb3, h3⟩
  obtain rfl : kk = (i : Int) := by
    rcases HF.out with ⟨_, _, h2, h4, h5, _⟩ | ⟨h, _⟩
    · rcases h3 with ⟨_, hno⟩ | ⟨j, rfl, hj, hj1, hj2⟩
      · have := hno i (by omega)
        rw [h4] at this
        cases this
      · rcases Nat.lt_trichotomy i j with h | h | h
        · rw [hj2 i h] at h4; cases h4
        · rw [h]
        · rw [h5 j h] at hj1; cases hj1
    · cases h
  have hc3 := (hb3.cell (p := ⟨w1.heap.size, 0, none⟩) HC2.out.2).trans HC2.out.1
  have hw3 := below_tr HA.out hb3
  clear h3 hix hcB1 hltB1
  go_wp2_with fail
  go_quiet (fail)
  go_wp2_with fail
  exact bodyPost_ret (v := .tuple #[.int .i64 i, .int .i64 k, .bool true]) (by simp [results, Try.results20, go_sem]) rfl ⟨rfl, below_tr hw3 (drewN_below _ _)⟩

theorem sfirst_is (a : Option Addr) (n c : Nat) (D : Nat → Val) (i k : Nat) (is : Bool) (w : World) (hl : SlV w a n c D) (hF : FirstS D n i k is) :
    Calls Try.prog 20 #[.slice a n c] w fun e w' => e = .returned (.tuple #[.int .i64 i, .int .i64 k, .bool is]) ∧ Below w.heap.size w w' := by
  cases is
  · exact first_f a n c D i k w hl hF
  · exact first_t a n c D i k w hl hF
end Go.Proofs.Ytnifpphimodonaa
