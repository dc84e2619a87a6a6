/-
  The document's own Free.
-/
import Derived.Test.YtnifpphimodonaaSRefL
namespace Go.Proofs.Ytnifpphimodonaa
open Go.RowKit

/-- Up to where it is free from p on, as far as the first q others say. -/
def endS (D : Nat → Val) (p u : Int) : Nat → Int
  | 0 => u
  | q + 1 => if p < (D q).n ∧ (D q).n < endS D p u q then (D q).n else endS D p u q

theorem endS_lt (D : Nat → Val) {p u : Int} (h : p < u) (q : Nat) : p < endS D p u q := by
  induction q with
  | zero => exact h
  | succ q ih =>
    show p < if p < (D q).n ∧ (D q).n < endS D p u q then (D q).n else endS D p u q
    split
    · omega
    · exact ih

theorem endS_le (D : Nat → Val) (p u : Int) (q : Nat) : endS D p u q ≤ u := by
  induction q with
  | zero => exact Int.le_refl _
  | succ q ih =>
    show (if p < (D q).n ∧ (D q).n < endS D p u q then (D q).n else endS D p u q) ≤ u
    split <;> omega

theorem endS_n (D : Nat → Val) (p u : Int) (q : Nat) : ∀ j, j < q → p < (D j).n → endS D p u q ≤ (D j).n := by
  induction q with
  | zero => intro j hj; omega
  | succ q ih =>
    intro j hj hp
    show (if p < (D q).n ∧ (D q).n < endS D p u q then (D q).n else endS D p u q) ≤ (D j).n
    rcases Nat.lt_succ_iff_lt_or_eq.1 hj with h | rfl
    · have := ih j h hp
      split <;> omega
    · split <;> omega

theorem endS_is (D : Nat → Val) (p u : Int) (q : Nat) : endS D p u q = u ∨ ∃ j, j < q ∧ endS D p u q = (D j).n := by
  induction q with
  | zero => exact .inl rfl
  | succ q ih =>
    show (if p < (D q).n ∧ (D q).n < endS D p u q then (D q).n else endS D p u q) = u ∨ ∃ j, j < q + 1 ∧ (if p < (D q).n ∧ (D q).n < endS D p u q then (D q).n else endS D p u q) = (D j).n
    split
    · exact .inr ⟨q, by omega, rfl⟩
    · rcases ih with h | ⟨j, hj, h⟩
      · exact .inl h
      · exact .inr ⟨j, by omega, h⟩

/-- Up to p all is settled: j gaps have come. -/
structure RInv (L : List (Int × Int)) (v : Val) (p : Int) (j : Nat) : Prop where
  ge : v.n ≤ p
  jl : j ≤ L.length
  lo : ∀ i (h : i < L.length), i < j → (L[i]).2 ≤ p
  hi : ∀ i (h : i < L.length), j ≤ i → p ≤ (L[i]).1

section
variable {L : List (Int × Int)} {v : Val} {D : Nat → Val} {n : Nat}

theorem gap_free (hL : GapsS v D n L) {i : Nat} (h : i < L.length) {x : Int} (h1 : (L[i]).1 ≤ x) (h2 : x < (L[i]).2) : v.n ≤ x ∧ x < v.u ∧ ∀ j, j < n → ¬ ((D j).n ≤ x ∧ x < (D j).u) :=
  (hL.iff x).1 ⟨L[i], List.getElem_mem h, h1, h2⟩

theorem gap_lt (hL : GapsS v D n L) {i : Nat} (h : i < L.length) : (L[i]).1 < (L[i]).2 := hL.lt _ (List.getElem_mem h)

theorem RInv.start (hL : GapsS v D n L) : RInv L v v.n 0 :=
  ⟨Int.le_refl _, Nat.zero_le _, fun i _ h => by omega, fun i h _ => (gap_free hL h (Int.le_refl _) (gap_lt hL h)).1⟩

theorem RInv.taken (hL : GapsS v D n L) {p : Int} {j i : Nat} (h : RInv L v p j) (hi : i < n) (h1 : (D i).n ≤ p) (h2 : p < (D i).u) : RInv L v (D i).u j := by
  refine ⟨by have := h.ge; omega, h.jl, fun t ht htj => by have := h.lo t ht htj; omega, fun t ht htj => ?_⟩
  have h3 := h.hi t ht htj
  rcases Int.lt_or_le (L[t]).1 (D i).u with g | g
  · exact absurd ⟨by omega, g⟩ ((gap_free hL ht (Int.le_refl _) (gap_lt hL ht)).2.2 i hi)
  · exact g

theorem RInv.gap (hL : GapsS v D n L) (hok : ∀ i, i < n → (D i).n < (D i).u) {p : Int} {j : Nat} (h : RInv L v p j) (hp : p < v.u) (hno : ∀ i, i < n → ¬ ((D i).n ≤ p ∧ p < (D i).u)) :
    ∃ hj : j < L.length, L[j] = (p, endS D p v.u n) ∧ RInv L v (endS D p v.u n) (j + 1) := by
  obtain ⟨e, he⟩ : ∃ e, endS D p v.u n = e := ⟨_, rfl⟩
  have e1 := endS_lt D hp n
  have e2 := endS_le D p v.u n
  have e3 := endS_n D p v.u n
  have e4 := endS_is D p v.u n
  rw [he] at e1 e2 e3 e4 ⊢
  have free : ∀ x, p ≤ x → x < e → (v.n ≤ x ∧ x < v.u ∧ ∀ i, i < n → ¬ ((D i).n ≤ x ∧ x < (D i).u)) := fun x h1 h2 => by
    refine ⟨by have := h.ge; omega, by omega, fun i hi hx => ?_⟩
    have a := hno i hi
    rcases Int.lt_or_le p (D i).n with g | g
    · have := e3 i hi g; omega
    · omega
  have nfree : ¬ (v.n ≤ e ∧ e < v.u ∧ ∀ i, i < n → ¬ ((D i).n ≤ e ∧ e < (D i).u)) := by
    rintro ⟨_, h2, h3⟩
    rcases e4 with h4 | ⟨i, hi, h4⟩
    · omega
    · exact h3 i hi ⟨by omega, by have := hok i hi; omega⟩
  obtain ⟨g, hg, g1, g2⟩ := (hL.iff p).2 (free p (Int.le_refl _) e1)
  obtain ⟨t, ht, rfl⟩ := List.getElem_of_mem hg
  have htj : j ≤ t := by
    rcases Nat.lt_or_ge t j with q | q
    · have := h.lo t ht q; omega
    · exact q
  have hjl : j < L.length := by omega
  have hj1 := h.hi j hjl (Nat.le_refl _)
  have hjt : j = t := by
    rcases Nat.lt_or_eq_of_le htj with q | q
    · have := List.pairwise_iff_getElem.1 hL.sep j t hjl ht q
      have := gap_lt hL hjl
      omega
    · exact q
  subst hjt
  have a1 : (L[j]).1 = p := by omega
  have a2 : (L[j]).2 = e := by
    rcases Int.lt_trichotomy (L[j]).2 e with q | q | q
    · have hlt := gap_lt hL hjl
      obtain ⟨g', hg', k1, k2⟩ := (hL.iff (L[j]).2).2 (free _ (by omega) q)
      obtain ⟨s, hs, rfl⟩ := List.getElem_of_mem hg'
      rcases Nat.lt_trichotomy j s with r | r | r
      · have := List.pairwise_iff_getElem.1 hL.sep j s hjl hs r; omega
      · subst r; omega
      · have := List.pairwise_iff_getElem.1 hL.sep s j hs hjl r; omega
    · exact q
    · exact (nfree (gap_free hL hjl (by omega) q)).elim
  refine ⟨hjl, Prod.ext a1 a2, by have := h.ge; omega, hjl, fun i hi hij => ?_, fun i hi hij => ?_⟩
  · rcases Nat.lt_succ_iff_lt_or_eq.1 hij with q | rfl
    · have := h.lo i hi q; omega
    · omega
  · have := List.pairwise_iff_getElem.1 hL.sep j i hjl hi (by omega)
    omega

theorem RInv.all (hL : GapsS v D n L) {p : Int} {j : Nat} (h : RInv L v p j) (hp : v.u ≤ p) : j = L.length := by
  rcases Nat.lt_or_eq_of_le h.jl with q | q
  · have h1 := h.hi j q (Nat.le_refl _)
    have h2 := (gap_free hL q (Int.le_refl _) (gap_lt hL q)).2.1
    omega
  · exact q
end

theorem append_stepW {ops : Array Oper} {rest : List Oper} {o : Oper} {a : Act} {w : World} {Q : Exit → Act → World → Prop} (hgd : o.guard = none) (s x : Operand) (t : TypeId)
    (ho : o.op = .call { callee := .builtin .append, args := #[s, x], argTypes := #[t, t] }) (v xv v' : Value) (w' : World) (hs : a.eval s = v) (hx : a.eval x = xv)
    (hrun : (Builtin.append_ #[t, t] o.type #[v, xv]).run Try.prog w = .ok v' w') (h : wpList Try.prog ops Q rest (a.put o.dst v') w') : wpList Try.prog ops Q (o :: rest) a w :=
  wpList_plain hgd fun _ hK => by
    unfold Oper.wp execOp
    simp only [ho, resolve, invoke, builtin, Sem.run_bind, Sem.run_pure, Result.andThen_ok, List.map_toArray, List.map_cons, List.map_nil, hs, hx, hrun]
    exact hK _ _ h

/-- One gap more is appended. -/
theorem app_gap {W : World} {base j : Nat} {X : Value} {L : List (Int × Int)} (ho : W.ownsRow base 23 4 X j (flatG L)) (hb : base ≤ W.heap.size) (hj : j ≤ 2000) (x y : Int) :
    ∃ X' W', (Builtin.append_ #[34, 34] 34 #[X, .slice (some ⟨W.heap.size, 0, none⟩) 1 1]).run Try.prog (W.alloc (.cells #[.int .u8 4, .int .i64 x, .int .i64 y, .string ⟨#[]⟩] 23)) = .ok X' W' ∧ W'.ownsRow base 23 4 X' (j + 1) (flatG (L ++ [(x, y)])) ∧ Below base W W' := by
  have hBox3 := Boxed.new W 4 x y ⟨#[]⟩ 23
  obtain ⟨i0, hi, hz0, hz1, hz2⟩ := info_parts info_v
  obtain ⟨v', W4, hrun, o4, g34, _, _⟩ := run_append_own_at (P := Try.prog) (W.alloc (.cells #[.int .u8 4, .int .i64 x, .int .i64 y, .string ⟨#[]⟩] 23)) base 34 34 23 i0 (.agg #[.int .u8 0, .int .i64 0, .int .i64 0, .string ⟨#[]⟩]) 4 40 Try.underlying34 hi hz0 hz1 hz2 rfl (by decide) X j (flatG L) (ho.alloc _)
    ⟨W.heap.size, 0, none⟩ 1 1 (gapC (x, y)) rfl
    (fun t u hu => by
      obtain ⟨c0, c1, c2, c3, _⟩ := hBox3
      have ht : t < 4 := by have := (List.getElem?_eq_some_iff.1 hu).1; simpa [gapC] using this
      rw [Addr.add_lit]
      match t, ht, hu with
      | 0, _, hu => simp [gapC] at hu; subst hu; exact c0
      | 1, _, hu => simp [gapC] at hu; subst hu; exact c1
      | 2, _, hu => simp [gapC] at hu; subst hu; exact c2
      | 3, _, hu => simp [gapC] at hu; subst hu; exact c3)
    (fun u hu => by
      simp only [gapC, List.mem_cons, List.not_mem_nil, or_false] at hu
      rcases hu with rfl | rfl | rfl | rfl <;> rfl)
    (by unfold maxLen; omega) (by omega) (by simp; omega)
  refine ⟨v', W4, hrun, by rw [flatG_snoc]; exact o4, ?_⟩
  exact (((Below.refl base W).alloc hb _).grown g34 (by simp; omega) (fun k e => (ho.lt k e).1))

set_option maxRecDepth 100000 in
set_option maxHeartbeats 4000000 in
theorem rfree_bad1 (v : Val) (a : Option Addr) (n c : Nat) (w : World) (hv : okS v = false) :
    Calls Try.prog 23 #[.agg #[.int .u8 v.k, .int .i64 v.n, .int .i64 v.u, .string v.t], .slice a n c] w fun e w' => e = .returned (.tuple #[.slice none 0 0, .int .i64 4]) ∧ Below w.heap.size w w' := by
  obtain ⟨W, g0, hW, hg, B0, hb0, hs⟩ := boxX w v
  subst hg
  have HB := Lib.hid hb0
  have H0 := Lib.hid B0
  clear hs
  obtain ⟨b0, b1, b2, b3, b4⟩ := B0
  have HV := Lib.hid hv
  clear hb0 hv
  go_enter Try.func23, Try.ntmps23
  go_wp2_with fail
  refine (refMay_is v _ HV.out _).mono ?_
  rintro e w1 ⟨rfl, hb1⟩
  go_wp2_with fail
  exact bodyPost_ret (v := .tuple #[.slice none 0 0, .int .i64 4]) (by simp [results, Try.results23, go_sem]) rfl ⟨rfl, below_tr HB.out hb1⟩

set_option maxRecDepth 100000 in
set_option maxHeartbeats 4000000 in
theorem rfree_bad2 (v : Val) (b o n c f : Nat) (D : Nat → Val) (hn : n ≤ 1000) (hf : f < n) (w : World) (hat : ∀ i, i < n → AtV w b (o + i * 4) (D i)) (hv : okS v = true) (hb1 : okS (D f) = false) (hb2 : ∀ i, i < f → okS (D i) = true) :
    Calls Try.prog 23 #[.agg #[.int .u8 v.k, .int .i64 v.n, .int .i64 v.u, .string v.t], .slice (some ⟨b, o, none⟩) n c] w fun e w' => e = .returned (.tuple #[.slice none 0 0, .int .i64 4]) ∧ Below w.heap.size w w' := by
  obtain ⟨W, g0, hW, hg, B0, hb0, hs⟩ := boxX w v
  subst hg
  have HB := Lib.hid hb0
  have H0 := Lib.hid B0
  clear hs
  obtain ⟨b0, b1, b2, b3, b4⟩ := B0
  have HAT := Lib.hid (fun i hi => (hat i hi).below hb0)
  have HF := Lib.hid (And.intro hb1 hb2)
  have HV := Lib.hid hv
  clear hb0 hv hat hb1 hb2 H0
  go_enter Try.func23, Try.ntmps23
  go_wp2_with fail
  refine (refMay_is v _ HV.out _).mono ?_
  rintro e w1 ⟨rfl, hb1⟩
  have HE1 := Lib.hid hb1
  clear hb1 b0 b1 b2 b3 b4
  go_wp2_with fail
  go_loopg [6] n (fun gg s6 wr => ∃ p : Nat, s6 = .int .i64 p ∧ p ≤ f ∧ n - p ≤ gg ∧ Hid (Below W.heap.size W wr))
  case atStart => exact ⟨0, rfl, Nat.zero_le _, by omega, HE1⟩
  case round =>
    obtain ⟨p, rfl, hpE, hgg, BW⟩ := hrel
    have hltz : (p : Int) < (n : Int) := by omega
    rcases Nat.lt_or_eq_of_le hpE with hpf | rfl
    · have z1 : ¬ n ≤ p := by omega
      have hp0 := HAT.out p (by omega)
      have hok0 := HF.out.2 p hpf
      obtain ⟨x, hx⟩ : ∃ x, D p = x := ⟨_, rfl⟩
      rw [hx] at hp0 hok0
      have HOK0 := Lib.hid hok0
      obtain ⟨c0, c1, c2, c3, c4⟩ := hp0.below BW.out
      clear hp0 hok0 hx
      go_wp2_with fail
      refine (refMay_is x _ HOK0.out _).mono ?_
      rintro e w2 ⟨rfl, hb2⟩
      go_wp2_with fail
      go_roundg (n - (p + 1))
      case measure => omega
      case rel => exact ⟨p + 1, by go_num, by omega, Nat.le_refl _, Lib.hid (BW.out.trans (hb2.mono BW.out.size))⟩
    · have z1 : ¬ n ≤ p := by omega
      have hp0 := HAT.out p (by omega)
      have hok0 := HF.out.1
      obtain ⟨x, hx⟩ : ∃ x, D p = x := ⟨_, rfl⟩
      rw [hx] at hp0 hok0
      have HOK0 := Lib.hid hok0
      obtain ⟨c0, c1, c2, c3, c4⟩ := hp0.below BW.out
      clear hp0 hok0 hx
      go_wp2_with fail
      refine (refMay_is x _ HOK0.out _).mono ?_
      rintro e w2 ⟨rfl, hb2⟩
      go_wp2_with fail
      exact bodyPost_ret (v := .tuple #[.slice none 0 0, .int .i64 4]) (by simp [results, Try.results23, go_sem]) rfl ⟨rfl, below_tr HB.out (BW.out.trans (hb2.mono BW.out.size))⟩

set_option maxRecDepth 100000 in
set_option maxHeartbeats 4000000 in
theorem rfree_0 (v : Val) (a : Option Addr) (c : Nat) (D : Nat → Val) (L : List (Int × Int)) (w : World)  (hv : okS v = true) (hok : ∀ i, i < 0 → okS (D i) = true) (hL : GapsS v D 0 L) (hlen : L.length ≤ 1001) :
    Calls Try.prog 23 #[.agg #[.int .u8 v.k, .int .i64 v.n, .int .i64 v.u, .string v.t], .slice a 0 c] w fun e w' => ∃ s, e = .returned (.tuple #[s, .int .i64 0]) ∧ w'.ownsRow w.heap.size 23 4 s L.length (flatG L) ∧ Below w.heap.size w w' := by
  obtain ⟨W, g0, hW, hg, B0, hb0, hs⟩ := boxX w v
  subst hg
  have HB := Lib.hid hb0
  have H0 := Lib.hid B0
  clear hs
  obtain ⟨b0, b1, b2, b3, b4⟩ := B0
  have HL := Lib.hid hL
  have HLEN := Lib.hid hlen
  have HOK := Lib.hid hok
  have HOKL := Lib.hid (fun i (hi : i < 0) => okS_lt (hok i hi))
  have HV := Lib.hid hv
  clear hb0 hv hL hlen hok
  go_enter Try.func23, Try.ntmps23
  go_wp2_with fail
  refine (refMay_is v _ HV.out _).mono ?_
  rintro e w1 ⟨rfl, hb1⟩
  have HE1 := Lib.hid hb1
  clear hb1 b0 b1 b2 b3 b4
  go_wp2_with fail
  refine wp_loop_rounds 1 ?_
  rw [rounds_succ]
  obtain ⟨b0, b1, b2, b3, b4⟩ := H0.out.below HE1.out
  go_wp2_with fail
  clear b0 b1 b2 b3 b4
  go_loopg [7, 8, 9, 10, 11, 12, 13] (v.u - v.n).toNat (fun gg s7 s8 _ _ _ _ _ wt => ∃ (p2 : Int) (j : Nat), s8 = .int .i64 p2 ∧ (v.u - p2).toNat ≤ gg ∧ Hid (RInv L v p2 j) ∧ Hid (wt.ownsRow W.heap.size 23 4 s7 j (flatG (L.take j))) ∧ Hid (Below W.heap.size W wt))
  case atStart => exact ⟨v.n, 0, rfl, Nat.le_refl _, Lib.hid (RInv.start HL.out), Lib.hid (by rw [List.take_zero]; exact World.ownsRow_nil _ _ _ _), HE1⟩
  case round =>
    obtain ⟨p2, j, rfl, hgg2, RI, OW, BTW⟩ := hrel
    have hjl : j ≤ 1001 := by have := RI.out.jl; have := HLEN.out; omega
    obtain ⟨b0, b1, b2, b3, b4⟩ := H0.out.below BTW.out
    obtain ⟨wo, rfl⟩ : ∃ wo, wo = wr := ⟨_, rfl⟩
    by_cases hlt2 : p2 < v.u
    · go_wp2_with fail
      clear b0 b1 b2 b3 b4
      refine wp_loop_rounds 1 ?_
      rw [rounds_succ]
      have HNO : Hid (∀ i, i < 0 → ¬ ((D i).n ≤ p2 ∧ p2 < (D i).u)) := Lib.hid (fun i hi => absurd hi (Nat.not_lt_zero _))
      obtain ⟨hjL, hLj, RI2⟩ := RI.out.gap HL.out HOKL.out hlt2 HNO.out
      have hlte := hlt2
      change L[j] = (p2, v.u) at hLj
      change RInv L v v.u (j + 1) at RI2
      have HRI2 := Lib.hid RI2
      have HTK : Hid (L.take j ++ [(p2, v.u)] = L.take (j + 1)) := Lib.hid (by rw [← hLj]; simp)
      clear RI2 hLj
      go_wp2_with fail
      refine (rof_t p2 v.u hlte _).mono ?_
      rintro e w6 ⟨rfl, hb6⟩
      have hal := Below.allocs w6 (.cells #[.int .u8 4, .int .i64 p2, .int .i64 v.u, .string ⟨#[]⟩] 23)
      have hz6 := below_tr (Below.refl _ _) (below_tr hb6 hal)
      have OW6 : (w6.alloc (.cells #[.int .u8 4, .int .i64 p2, .int .i64 v.u, .string ⟨#[]⟩] 23)).ownsRow W.heap.size 23 4 u7 j (flatG (L.take j)) := OW.out.kept (grown_of_below hz6) (by cases u7.ownBlock <;> simp)
      obtain ⟨X', W', hrun, hOX, hBX⟩ := app_gap OW6 (Nat.le_trans BTW.out.size hz6.size) (by omega) p2 v.u
      rw [HTK.out] at hOX
      rw [show (w6.alloc (.cells #[.int .u8 4, .int .i64 p2, .int .i64 v.u, .string ⟨#[]⟩] 23)).heap.size = w6.heap.size + 1 by simp] at hrun
      have HRUN := Lib.hid hrun
      have HOX := Lib.hid hOX
      have HBX := Lib.hid ((BTW.out.trans (hz6.mono BTW.out.size)).trans hBX)
      clear hrun hOX hBX OW6 hz6 hal hb6
      go_wp2_with (at_builtin; refine append_stepW rfl _ _ 34 rfl _ _ _ _ rfl rfl HRUN.out ?_)
      go_roundg (v.u - v.u).toNat
      case measure => omega
      case rel => exact ⟨v.u, j + 1, rfl, Nat.le_refl _, HRI2, HOX, HBX⟩
    · obtain rfl := RI.out.all HL.out (by omega)
      have HOW : Hid (wo.ownsRow w.heap.size 23 4 u7 L.length (flatG L)) := Lib.hid (by
        have h := OW.out
        rw [List.take_length] at h
        refine ⟨h.1, ?_⟩
        rcases h.2 with h2 | ⟨g, cap, cur, h2, h3, h4⟩
        · exact .inl h2
        · exact .inr ⟨g, cap, cur, h2, Nat.le_trans HB.out.size h3, h4⟩)
      go_wp2_with fail
      exact bodyPost_ret (v := .tuple #[u7, .int .i64 0]) (by simp [results, Try.results23, go_sem]) rfl ⟨u7, rfl, HOW.out, below_tr HB.out BTW.out⟩

set_option maxRecDepth 100000 in
set_option maxHeartbeats 4000000 in
theorem rfree_n (v : Val) (b o n c : Nat) (hn : n ≤ 1000) (D : Nat → Val) (L : List (Int × Int)) (w : World) (hat : ∀ i, i < n → AtV w b (o + i * 4) (D i)) (hv : okS v = true) (hok : ∀ i, i < n → okS (D i) = true) (hL : GapsS v D n L) (hlen : L.length ≤ 1001) :
    Calls Try.prog 23 #[.agg #[.int .u8 v.k, .int .i64 v.n, .int .i64 v.u, .string v.t], .slice (some ⟨b, o, none⟩) n c] w fun e w' => ∃ s, e = .returned (.tuple #[s, .int .i64 0]) ∧ w'.ownsRow w.heap.size 23 4 s L.length (flatG L) ∧ Below w.heap.size w w' := by
  obtain ⟨W, g0, hW, hg, B0, hb0, hs⟩ := boxX w v
  subst hg
  have HB := Lib.hid hb0
  have H0 := Lib.hid B0
  clear hs
  obtain ⟨b0, b1, b2, b3, b4⟩ := B0
  have HAT := Lib.hid (fun i hi => (hat i hi).below hb0)
  have HL := Lib.hid hL
  have HLEN := Lib.hid hlen
  have HOK := Lib.hid hok
  have HOKL := Lib.hid (fun i (hi : i < n) => okS_lt (hok i hi))
  have HV := Lib.hid hv
  clear hb0 hv hL hlen hok hat
  go_enter Try.func23, Try.ntmps23
  go_wp2_with fail
  refine (refMay_is v _ HV.out _).mono ?_
  rintro e w1 ⟨rfl, hb1⟩
  have HE1 := Lib.hid hb1
  clear hb1 b0 b1 b2 b3 b4
  go_wp2_with fail
  go_loopg [6] n (fun gg s6 wr => ∃ p : Nat, s6 = .int .i64 p ∧ p ≤ n ∧ n - p ≤ gg ∧ Hid (Below W.heap.size W wr))
  case atStart => exact ⟨0, rfl, Nat.zero_le _, by omega, HE1⟩
  case round =>
    obtain ⟨p, rfl, hpE, hgg, BW⟩ := hrel
    by_cases hlt : p < n
    · have hltz : (p : Int) < (n : Int) := by omega
      have z1 : ¬ n ≤ p := by omega
      have hp0 := HAT.out p (by omega)
      have hok0 := HOK.out p hlt
      obtain ⟨x, hx⟩ : ∃ x, D p = x := ⟨_, rfl⟩
      rw [hx] at hp0 hok0
      have HOK0 := Lib.hid hok0
      obtain ⟨c0, c1, c2, c3, c4⟩ := hp0.below BW.out
      clear hp0 hok0 hx
      go_wp2_with fail
      refine (refMay_is x _ HOK0.out _).mono ?_
      rintro e w2 ⟨rfl, hb2⟩
      go_wp2_with fail
      go_roundg (n - (p + 1))
      case measure => omega
      case rel => exact ⟨p + 1, by go_num, by omega, Nat.le_refl _, Lib.hid (BW.out.trans (hb2.mono BW.out.size))⟩
    · have hltz : ¬ (p : Int) < (n : Int) := by omega
      obtain ⟨b0, b1, b2, b3, b4⟩ := H0.out.below BW.out
      have HE1 := BW
      go_wp2_with fail
      clear b0 b1 b2 b3 b4
      go_loopg [7, 8, 9, 10, 11, 12, 13] (v.u - v.n).toNat (fun gg s7 s8 _ _ _ _ _ wt => ∃ (p2 : Int) (j : Nat), s8 = .int .i64 p2 ∧ (v.u - p2).toNat ≤ gg ∧ Hid (RInv L v p2 j) ∧ Hid (wt.ownsRow W.heap.size 23 4 s7 j (flatG (L.take j))) ∧ Hid (Below W.heap.size W wt))
      case atStart => exact ⟨v.n, 0, rfl, Nat.le_refl _, Lib.hid (RInv.start HL.out), Lib.hid (by rw [List.take_zero]; exact World.ownsRow_nil _ _ _ _), HE1⟩
      case round =>
        obtain ⟨p2, j, rfl, hgg2, RI, OW, BTW⟩ := hrel
        have hjl : j ≤ 1001 := by have := RI.out.jl; have := HLEN.out; omega
        obtain ⟨b0, b1, b2, b3, b4⟩ := H0.out.below BTW.out
        obtain ⟨wo, rfl⟩ : ∃ wo, wo = wr := ⟨_, rfl⟩
        by_cases hlt2 : p2 < v.u
        · go_wp2_with fail
          clear b0 b1 b2 b3 b4
          go_loopg [8, 9, 10, 11] n (fun gh s8 s9 s10 s11 wi => ∃ q : Nat, s11 = .int .i64 q ∧ q ≤ n ∧ n - q ≤ gh ∧ s8 = .int .i64 p2 ∧ s9 = .bool false ∧ s10 = .int .i64 (endS D p2 v.u q) ∧ Hid (∀ i, i < q → ¬ ((D i).n ≤ p2 ∧ p2 < (D i).u)) ∧ Hid (Below wo.heap.size wo wi))
          case atStart => exact ⟨0, rfl, Nat.zero_le _, by omega, rfl, rfl, rfl, Lib.hid (fun i hi => absurd hi (Nat.not_lt_zero _)), Lib.hid (Below.refl _ _)⟩
          case round =>
            obtain ⟨q, rfl, hqn, hgh, rfl, rfl, rfl, HNO, BI⟩ := hrel
            by_cases hlt3 : q < n
            · have hltz3 : (q : Int) < (n : Int) := by omega
              have z1 : ¬ n ≤ q := by omega
              have hq0 := HAT.out q hlt3
              obtain ⟨x, hx⟩ : ∃ x, D q = x := ⟨_, rfl⟩
              rw [hx] at hq0
              have HXE := Lib.hid hx
              have HX := Lib.hid ((hq0.below BTW.out).below BI.out)
              have hxo : okS x = true := by rw [← hx]; exact HOK.out q hlt3
              obtain ⟨en, hen⟩ : ∃ e, endS D p2 v.u q = e := ⟨_, rfl⟩
              rw [hen]
              have HEN := Lib.hid hen
              have HXO := Lib.hid hxo
              obtain ⟨c0, c1, c2, c3, c4⟩ := HX.out
              clear hq0 hx hen hxo
              obtain ⟨y, hy⟩ : ∃ y, hasS x p2 = y := ⟨_, rfl⟩
              have HY := Lib.hid hy
              have hrh := fun w => rhas_is x p2 y HY.out w
              clear hy
              cases y
              · go_wp2_with fail
                refine (hrh _).mono ?_
                rintro e w5 ⟨rfl, hb5⟩
                have HNO2 : Hid (∀ i, i < q + 1 → ¬ ((D i).n ≤ p2 ∧ p2 < (D i).u)) := Lib.hid (fun i hi hh => by
                  rcases Nat.lt_succ_iff_lt_or_eq.1 hi with g | rfl
                  · exact HNO.out i g hh
                  · rw [HXE.out] at hh
                    have := hasS_iff.2 ⟨HXO.out, hh.1, hh.2⟩
                    rw [HY.out] at this
                    cases this)
                have HB5 := Lib.hid (below_tr BI.out hb5)
                obtain ⟨d0, d1, d2, d3, d4⟩ := HX.out.below hb5
                clear c0 c1 c2 c3 c4 hb5
                by_cases h1 : p2 < x.n
                · by_cases h2 : x.n < en
                  · go_wp2_with fail
                    go_roundg (n - (q + 1))
                    case measure => omega
                    case rel =>
                      refine ⟨q + 1, by go_num, by omega, Nat.le_refl _, rfl, rfl, ?_, HNO2, HB5⟩
                      show _ = Value.int .i64 (if p2 < (D q).n ∧ (D q).n < endS D p2 v.u q then (D q).n else endS D p2 v.u q)
                      rw [HXE.out, HEN.out, if_pos ⟨h1, h2⟩]
                  · go_wp2_with fail
                    go_roundg (n - (q + 1))
                    case measure => omega
                    case rel =>
                      refine ⟨q + 1, by go_num, by omega, Nat.le_refl _, rfl, rfl, ?_, HNO2, HB5⟩
                      show _ = Value.int .i64 (if p2 < (D q).n ∧ (D q).n < endS D p2 v.u q then (D q).n else endS D p2 v.u q)
                      rw [HXE.out, HEN.out, if_neg (fun h => by have := h.2; omega)]
                · go_wp2_with fail
                  go_roundg (n - (q + 1))
                  case measure => omega
                  case rel =>
                    refine ⟨q + 1, by go_num, by omega, Nat.le_refl _, rfl, rfl, ?_, HNO2, HB5⟩
                    show _ = Value.int .i64 (if p2 < (D q).n ∧ (D q).n < endS D p2 v.u q then (D q).n else endS D p2 v.u q)
                    rw [HXE.out, HEN.out, if_neg (fun h => by have := h.1; omega)]
              · go_wp2_with fail
                refine (hrh _).mono ?_
                rintro e w5 ⟨rfl, hb5⟩
                have HH := Lib.hid (hasS_iff.1 HY.out)
                have hux : p2 < x.u := HH.out.2.2
                have HB5 := Lib.hid (below_tr BI.out hb5)
                obtain ⟨d0, d1, d2, d3, d4⟩ := HX.out.below hb5
                clear c0 c1 c2 c3 c4 hb5
                go_wp2_with fail
                go_roundg (v.u - x.u).toNat
                case measure => omega
                case rel =>
                  refine ⟨x.u, j, rfl, Nat.le_refl _, Lib.hid ?_, Lib.hid (OW.out.kept (grown_of_below HB5.out) (by cases u7.ownBlock <;> simp)), Lib.hid (BTW.out.trans (HB5.out.mono BTW.out.size))⟩
                  have := RI.out.taken HL.out hlt3 (by rw [HXE.out]; exact HH.out.2.1) (by rw [HXE.out]; exact hux)
                  rwa [HXE.out] at this
            · obtain rfl : q = n := by omega
              have hltz3 : ¬ (q : Int) < (q : Int) := by omega
              obtain ⟨hjL, hLj, RI2⟩ := RI.out.gap HL.out HOKL.out hlt2 HNO.out
              have hlte := endS_lt D hlt2 q
              obtain ⟨e2, he2⟩ : ∃ e, endS D p2 v.u q = e := ⟨_, rfl⟩
              rw [he2] at hLj RI2 hlte
              try rw [he2]
              have HRI2 := Lib.hid RI2
              have HTK : Hid (L.take j ++ [(p2, e2)] = L.take (j + 1)) := Lib.hid (by rw [← hLj]; simp)
              clear RI2 hLj he2
              go_wp2_with fail
              refine (rof_t p2 e2 hlte _).mono ?_
              rintro e w6 ⟨rfl, hb6⟩
              have hal := Below.allocs w6 (.cells #[.int .u8 4, .int .i64 p2, .int .i64 e2, .string ⟨#[]⟩] 23)
              have hz6 := below_tr (BI.out) (below_tr hb6 hal)
              have OW6 : (w6.alloc (.cells #[.int .u8 4, .int .i64 p2, .int .i64 e2, .string ⟨#[]⟩] 23)).ownsRow W.heap.size 23 4 u7 j (flatG (L.take j)) := OW.out.kept (grown_of_below hz6) (by cases u7.ownBlock <;> simp)
              obtain ⟨X', W', hrun, hOX, hBX⟩ := app_gap OW6 (Nat.le_trans BTW.out.size hz6.size) (by omega) p2 e2
              rw [HTK.out] at hOX
              rw [show (w6.alloc (.cells #[.int .u8 4, .int .i64 p2, .int .i64 e2, .string ⟨#[]⟩] 23)).heap.size = w6.heap.size + 1 by simp] at hrun
              have HRUN := Lib.hid hrun
              have HOX := Lib.hid hOX
              have HBX := Lib.hid ((BTW.out.trans (hz6.mono BTW.out.size)).trans hBX)
              clear hrun hOX hBX OW6 hz6 hal hb6
              go_wp2_with (at_builtin; refine append_stepW rfl _ _ 34 rfl _ _ _ _ rfl rfl HRUN.out ?_)
              go_roundg (v.u - e2).toNat
              case measure => omega
              case rel => exact ⟨e2, j + 1, rfl, Nat.le_refl _, HRI2, HOX, HBX⟩
        · obtain rfl := RI.out.all HL.out (by omega)
          have HOW : Hid (wo.ownsRow w.heap.size 23 4 u7 L.length (flatG L)) := Lib.hid (by
            have h := OW.out
            rw [List.take_length] at h
            refine ⟨h.1, ?_⟩
            rcases h.2 with h2 | ⟨g, cap, cur, h2, h3, h4⟩
            · exact .inl h2
            · exact .inr ⟨g, cap, cur, h2, Nat.le_trans HB.out.size h3, h4⟩)
          go_wp2_with fail
          exact bodyPost_ret (v := .tuple #[u7, .int .i64 0]) (by simp [results, Try.results23, go_sem]) rfl ⟨u7, rfl, HOW.out, below_tr HB.out BTW.out⟩

end Go.Proofs.Ytnifpphimodonaa
