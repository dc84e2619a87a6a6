/-
  SpanLists, walked.
-/
import Derived.Test.YtnifpphimodonaaSRFree
import Derived.Test.YtnifpphimodonaaSFreeL
namespace Go.Proofs.Ytnifpphimodonaa
open Go.RowKit

/-- What Free answers: the refusal, or how many gaps, and which. -/
def FreeS (v : Val) (D : Nat → Val) (n : Nat) (er : Int) (m : Nat) (E : Nat → Val) : Prop :=
  ((okS v = false ∨ (okS v = true ∧ ((List.range n).map D).any (fun v => !okS v) = true)) ∧ er = 4 ∧ m = 0) ∨
  (okS v = true ∧ (∀ i, i < n → okS (D i) = true) ∧ er = 0 ∧ ∃ L, GapsS v D n L ∧ L.length ≤ n + 1 ∧ m = L.length ∧ E = gapV L)

theorem FreeS.exists (v : Val) (D : Nat → Val) (n : Nat) : ∃ er m E, FreeS v D n er m E := by
  cases hv : okS v
  · exact ⟨4, 0, fun _ => Val.zero, .inl ⟨.inl hv, rfl, rfl⟩⟩
  cases hb : ((List.range n).map D).any (fun v => !okS v)
  · have hok : ∀ i, i < n → okS (D i) = true := fun i hi => by
      rw [List.any_eq_false] at hb
      have := hb (D i) (List.mem_map.2 ⟨i, by simpa using hi, rfl⟩)
      simpa using this
    obtain ⟨L, hL, hlen⟩ := GapsS.exists_short v n D hok
    exact ⟨0, L.length, gapV L, .inr ⟨hv, hok, rfl, L, hL, hlen, rfl, rfl⟩⟩
  · exact ⟨4, 0, fun _ => Val.zero, .inl ⟨.inr ⟨hv, hb⟩, rfl, rfl⟩⟩

/-- A list of m values in memory of its own. -/
def NewL (W : World) (base : Nat) (A : Option Addr) (m : Nat) (E : Nat → Val) : Prop := 0 < m → ∃ g, A = some ⟨g, 0, none⟩ ∧ base ≤ g ∧ RowF W g m E

theorem NewL.below {W W' : World} {base : Nat} {A : Option Addr} {m : Nat} {E : Nat → Val} (h : NewL W base A m E) (hb : Below W.heap.size W W') : NewL W' base A m E := fun hm => by
  obtain ⟨g, e, h1, h2⟩ := h hm
  exact ⟨g, e, h1, h2.below hb⟩

theorem newL_of {W : World} {base : Nat} {s : Value} {L : List (Int × Int)} (h : W.ownsRow base 23 4 s L.length (flatG L)) : ∃ A cap, s = .slice A L.length cap ∧ NewL W base A L.length (gapV L) := by
  rcases own_row h with ⟨h1, rfl⟩ | ⟨g, cap, h1, _, _, h2, h3⟩
  · exact ⟨none, 0, h1, fun h => absurd h (Nat.lt_irrefl _)⟩
  · exact ⟨_, cap, h1, fun _ => ⟨g, rfl, h2, h3⟩⟩

theorem free_any (v : Val) (a : Option Addr) (n c : Nat) (D : Nat → Val) (er : Int) (m : Nat) (E : Nat → Val) (hS : FreeS v D n er m E) (w : World) (hl : SlV w a n c D) :
    Calls Try.prog 22 #[.agg #[.int .u8 v.k, .int .i64 v.n, .int .i64 v.u, .string v.t], .slice a n c] w fun e w' => ∃ A cap, e = .returned (.tuple #[.slice A m cap, .int .i64 er]) ∧ NewL w' w.heap.size A m E ∧ Below w.heap.size w w' := by
  rcases hS with ⟨hbad, rfl, rfl⟩ | ⟨hv, hok, rfl, L, hL, hlen, rfl, rfl⟩
  · have : Calls Try.prog 22 #[.agg #[.int .u8 v.k, .int .i64 v.n, .int .i64 v.u, .string v.t], .slice a n c] w fun e w' => e = .returned (.tuple #[.slice none 0 0, .int .i64 4]) ∧ Below w.heap.size w w' := by
      rcases hbad with h | ⟨h1, h2⟩
      · exact free_bad1 v a n c w h
      · exact free_bad2 v a n c D w hl h1 h2
    exact this.mono fun e w' ⟨h1, h2⟩ => ⟨none, 0, h1, fun h => absurd h (Nat.lt_irrefl _), h2⟩
  · refine (free_ok v a n c D w hl hv hok L hL).mono ?_
    rintro e w' ⟨s, rfl, ho, hb⟩
    obtain ⟨A, cap, rfl, hn⟩ := newL_of ho
    exact ⟨A, cap, rfl, hn, hb⟩

theorem rfree_any (v : Val) (a : Option Addr) (n c : Nat) (D : Nat → Val) (er : Int) (m : Nat) (E : Nat → Val) (hS : FreeS v D n er m E) (w : World) (hl : SlV w a n c D) :
    Calls Try.prog 23 #[.agg #[.int .u8 v.k, .int .i64 v.n, .int .i64 v.u, .string v.t], .slice a n c] w fun e w' => ∃ A cap, e = .returned (.tuple #[.slice A m cap, .int .i64 er]) ∧ NewL w' w.heap.size A m E ∧ Below w.heap.size w w' := by
  have hsm := hl.small
  rcases hS with ⟨hbad, rfl, rfl⟩ | ⟨hv, hok, rfl, L, hL, hlen, rfl, rfl⟩
  · have : Calls Try.prog 23 #[.agg #[.int .u8 v.k, .int .i64 v.n, .int .i64 v.u, .string v.t], .slice a n c] w fun e w' => e = .returned (.tuple #[.slice none 0 0, .int .i64 4]) ∧ Below w.heap.size w w' := by
      rcases hbad with h | ⟨h1, h2⟩
      · exact rfree_bad1 v a n c w h
      · have hex : ∃ i, i < n ∧ okS (D i) = false := by
          rw [List.any_eq_true] at h2
          obtain ⟨x, hx, hq⟩ := h2
          obtain ⟨i, hi, rfl⟩ := List.mem_map.1 hx
          exact ⟨i, by simpa using hi, by simpa using hq⟩
        obtain ⟨f, hf, hff⟩ := turns_at (fun t => ∃ s, s ≤ t ∧ okS (D s) = false) n (fun i j hij _ ⟨s, h1, h2⟩ => ⟨s, by omega, h2⟩)
        obtain ⟨i0, hi0, hb0⟩ := hex
        have hfn : f < n := by
          have := (hff i0 hi0).2 ⟨i0, Nat.le_refl _, hb0⟩
          omega
        have hlo : ∀ i, i < f → okS (D i) = true := fun i hi => by
          cases e : okS (D i)
          · have := (hff i (by omega)).2 ⟨i, Nat.le_refl _, e⟩; omega
          · rfl
        obtain ⟨s, hs, hsb⟩ := (hff f hfn).1 (Nat.le_refl _)
        have hsf : s = f := by
          rcases Nat.lt_or_ge s f with q | q
          · rw [hlo s q] at hsb; cases hsb
          · omega
        subst hsf
        obtain ⟨b, o, rfl, hat⟩ := hl.at' (by omega)
        exact rfree_bad2 v b o n c s D hsm hfn w hat h1 hsb hlo
    exact this.mono fun e w' ⟨h1, h2⟩ => ⟨none, 0, h1, fun h => absurd h (Nat.lt_irrefl _), h2⟩
  · have : Calls Try.prog 23 #[.agg #[.int .u8 v.k, .int .i64 v.n, .int .i64 v.u, .string v.t], .slice a n c] w fun e w' => ∃ s, e = .returned (.tuple #[s, .int .i64 0]) ∧ w'.ownsRow w.heap.size 23 4 s L.length (flatG L) ∧ Below w.heap.size w w' := by
      rcases Nat.eq_zero_or_pos n with rfl | hn
      · exact rfree_0 v a c D L w hv hok hL (by omega)
      · obtain ⟨b, o, rfl, hat⟩ := hl.at' hn
        exact rfree_n v b o n c hsm D L w hat hv hok hL (by omega)
    refine this.mono ?_
    rintro e w' ⟨s, rfl, ho, hb⟩
    obtain ⟨A, cap, rfl, hn⟩ := newL_of ho
    exact ⟨A, cap, rfl, hn, hb⟩

theorem same_new (A A' : Option Addr) (m cap cap' base base' : Nat) (E : Nat → Val) (w : World) (hm : m ≤ 1000) (h1 : NewL w base A m E) (h2 : NewL w base' A' m E) :
    Calls Try.prog 24 #[.slice A m cap, .slice A' m cap'] w fun e w' => e = .returned (.bool true) ∧ Below w.heap.size w w' := by
  rcases Nat.eq_zero_or_pos m with rfl | h
  · exact same_0 A A' cap cap' w
  · obtain ⟨g, rfl, _, r1⟩ := h1 h
    obtain ⟨g', rfl, _, r2⟩ := h2 h
    exact same_n g 0 g' 0 m cap cap' E w hm (fun i hi => by rw [Nat.zero_add]; exact r1.at' i hi) (fun i hi => by rw [Nat.zero_add]; exact r2.at' i hi)

theorem same_sl (A A' : Option Addr) (n c c' : Nat) (D : Nat → Val) (w : World) (h1 : SlV w A n c D) (h2 : SlV w A' n c' D) :
    Calls Try.prog 24 #[.slice A n c, .slice A' n c'] w fun e w' => e = .returned (.bool true) ∧ Below w.heap.size w w' := by
  rcases Nat.eq_zero_or_pos n with rfl | h
  · exact same_0 A A' c c' w
  · obtain ⟨b, o, rfl, r1⟩ := h1.at' h
    obtain ⟨b', o', rfl, r2⟩ := h2.at' h
    exact same_n b o b' o' n c c' D w h1.small r1 r2

/-- A copy of a list, made by append. -/
theorem copy_run (a : Option Addr) (n c : Nat) (D : Nat → Val) (w : World) (hl : SlV w a n c D) :
    ∃ I ci W', (Builtin.append_ #[34, 34] 34 #[.slice (some ⟨w.heap.size, 0, none⟩) 0 0, .slice a n c]).run Try.prog (w.alloc (.cells #[] 23)) = .ok (.slice I n ci) W' ∧ SlV W' I n ci D ∧ Below w.heap.size w W' := by
  obtain ⟨i0, hi, hz0, hz1, hz2⟩ := info_parts info_v
  have hsm := hl.small
  cases a with
  | none =>
    have hn : n = 0 := by
      rcases Nat.eq_zero_or_pos n with h | h
      · exact h
      · obtain ⟨b, o, e, _⟩ := hl.at' h; cases e
    subst hn
    refine ⟨some ⟨w.heap.size, 0, none⟩, 0, w.alloc (.cells #[] 23), ?_, ⟨Nat.le_refl _, by omega, by omega, fun h => absurd h (Nat.lt_irrefl _)⟩, Below.allocs _ _⟩
    go_simp
  | some ad =>
    have hf : ∃ b o, n = 0 ∨ (ad = ⟨b, o, none⟩ ∧ ∀ i, i < n → AtV w b (o + i * 4) (D i)) := by
      rcases Nat.eq_zero_or_pos n with h | h
      · exact ⟨0, 0, .inl h⟩
      · obtain ⟨b, o, e, hat⟩ := hl.at' h
        exact ⟨b, o, .inr ⟨by injection e, hat⟩⟩
    obtain ⟨b, o, hf⟩ := hf
    obtain ⟨v', W', hrun, ho, hg, hnil, _⟩ := run_append_own_at (P := Try.prog) (w.alloc (.cells #[] 23)) w.heap.size 34 34 23 i0 (.agg #[.int .u8 0, .int .i64 0, .int .i64 0, .string ⟨#[]⟩]) 4 40 Try.underlying34 hi hz0 hz1 hz2 rfl (by decide)
      (.slice (some ⟨w.heap.size, 0, none⟩) 0 0) 0 [] (World.ownsRow_made w #[] 0 (Nat.le_refl _) (Nat.zero_le _) (by simp)) ad n c (flatV D n) (flatV_len D n)
      (fun j u hj => by
        have hjl : j < n * 4 := by have := (List.getElem?_eq_some_iff.1 hj).1; rwa [flatV_len] at this
        rcases hf with h | ⟨rfl, hat⟩
        · omega
        · have e : j = j / 4 * 4 + j % 4 := by omega
          rw [e] at hj
          rw [flatV_get D n _ _ (by omega) (by omega)] at hj
          have := encV_get ((hat (j / 4) (by omega)).below (Below.allocs w (.cells #[] 23))) hj
          rw [Addr.add_lit, show o + j = o + j / 4 * 4 + j % 4 by omega]
          exact this)
      (flatV_one D n) (by unfold maxLen; omega) (by omega) (by simp)
    have hb : Below w.heap.size w W' := ((Below.allocs w _).grown hg (by simp) (fun k hk => by simp [Value.ownBlock] at hk; omega))
    rw [Nat.zero_add, List.nil_append] at ho
    rcases ho.2 with ⟨h, _⟩ | ⟨g, cap, cur, rfl, hbg, hgg, hnc, hcm, hcs, hxs⟩
    · have := hnil.1 h
      simp at this
    · refine ⟨_, cap, W', hrun, ⟨hnc, by unfold maxLen at hcm; omega, hsm, fun _ => ⟨g, 0, rfl, fun i hi' => atV_of (fun t u hu => ?_) (some_lt hgg)⟩⟩, hb⟩
      have hc : t < 4 := by have := (List.getElem?_eq_some_iff.1 hu).1; simpa [encV] using this
      have := flatV_get D n i t hi' hc
      rw [hu, ← hxs, List.getElem?_take_of_lt (by omega)] at this
      simp [World.cell?, show W'.heap[g]? = _ from hgg]
      simpa using this

set_option maxRecDepth 100000 in
set_option maxHeartbeats 4000000 in
theorem lists_a (v : Val) (a : Option Addr) (n c : Nat) (h : 100 < n) (w : World)  :
    Calls Try.prog 4 #[.agg #[.int .u8 v.k, .int .i64 v.n, .int .i64 v.u, .string v.t], .slice a n c] w fun e w' => e = .returned (.bool true) ∧ Below w.heap.size w w' := by
  obtain ⟨W, g0, hW, hg, B0, hb0, hs⟩ := boxX w v
  subst hg
  have HB := Lib.hid hb0
  have H0 := Lib.hid B0
  clear hs B0
  have h' : (100 : Int) < (n : Int) := by omega
  clear h hb0
  go_enter Try.func4, Try.ntmps4
  go_wp2_with fail
  refine (awake_is _).mono ?_
  rintro e w1 ⟨rfl, hb1⟩
  go_wp2_with fail
  go_ret
  exact ⟨rfl, below_tr HB.out hb1⟩

set_option maxRecDepth 100000 in
set_option maxHeartbeats 4000000 in
theorem lists_b (v : Val) (a : Option Addr) (n c : Nat) (hn : n ≤ 100) (D : Nat → Val) (w : World) (hl : SlV w a n c D) :
    Calls Try.prog 4 #[.agg #[.int .u8 v.k, .int .i64 v.n, .int .i64 v.u, .string v.t], .slice a n c] w fun e w' => e = .returned (.bool true) ∧ Below w.heap.size w w' := by
  obtain ⟨W, g0, hW, hg, B0, hb0, hs⟩ := boxX w v
  subst hg
  have HB := Lib.hid hb0
  have H0 := Lib.hid B0
  clear hs B0
  obtain ⟨i, k, is, hF⟩ := FirstS.exists D n
  obtain ⟨er, m, E, hE⟩ := FreeS.exists v D n
  have hm : m ≤ 101 := by
    rcases hE with ⟨_, _, h⟩ | ⟨_, _, _, L, _, h1, h2, _⟩ <;> omega
  have HL := Lib.hid (hl.below hb0)
  have HF := Lib.hid hF
  have HE := Lib.hid hE
  have h' : ¬ (100 : Int) < (n : Int) := by omega
  clear hb0 hl hF hE
  go_enter Try.func4, Try.ntmps4
  go_wp2_with fail
  go_loopg [5] n (fun gg s5 wr => ∃ p : Nat, s5 = .int .i64 p ∧ p ≤ n ∧ n - p ≤ gg ∧ wr = W)
  case atStart => exact ⟨0, rfl, Nat.zero_le _, by omega, rfl⟩
  case round =>
    obtain ⟨p, rfl, hpn, hgg, rfl⟩ := hrel
    by_cases hlt : p < n
    · have hltz : (p : Int) < (n : Int) := by omega
      have z1 : ¬ n ≤ p := by omega
      obtain ⟨b, o, rfl, hat⟩ := HL.out.at' (by omega)
      have hp := hat p hlt
      obtain ⟨x, hx⟩ : ∃ x, D p = x := ⟨_, rfl⟩
      rw [hx] at hp
      obtain ⟨c0, c1, c2, c3, c4⟩ := hp
      clear hat hx
      by_cases ht : (1000 : Int) < (x.t.size : Int)
      · go_wp2_with fail
        go_ret
        exact ⟨rfl, HB.out⟩
      · go_wp2_with fail
        go_roundg (n - (p + 1))
        case measure => omega
        case rel => exact ⟨p + 1, by go_num, by omega, Nat.le_refl _, rfl⟩
    · have hltz : ¬ (p : Int) < (n : Int) := by omega
      go_wp2_with fail
      refine (sfirst_is a n c D i k is _ HL.out HF.out).mono ?_
      rintro e w1 ⟨rfl, hb1⟩
      go_wp2_with fail
      refine (rfirst_is a n c D i k is _ (HL.out.below hb1) HF.out).mono ?_
      rintro e w2 ⟨rfl, hb2⟩
      have hz2 := below_tr hb1 hb2
      obtain ⟨I, ci, W3, hrun, hI, hb3⟩ := copy_run a n c D w2 (HL.out.below hz2)
      have HRUN := Lib.hid hrun
      have HI3 := Lib.hid hI
      have hz3 := below_tr hz2 hb3
      have HL3 := Lib.hid (HL.out.below hz3)
      have H3 := Lib.hid (H0.out.below hz3)
      have HB3 := Lib.hid (below_tr HB.out hz3)
      clear hrun hI hb1 hb2 hb3 hz2 hz3 HL H0 HB
      go_wp2_with (at_builtin; refine append_stepW rfl _ _ 34 rfl _ _ _ _ rfl rfl HRUN.out ?_)
      go_loopg [13, 14, 15, 16, 17, 18] 2 (fun gg s13 _ _ _ _ _ wr => ∃ p : Nat, s13 = .int .i64 p ∧ p ≤ 2 ∧ 2 - p ≤ gg ∧ Hid (SlV wr I n ci D) ∧ Hid (SlV wr a n c D) ∧ Hid (Boxed wr w.heap.size v.k v.n v.u v.t) ∧ Hid (Below w.heap.size w wr))
      case atStart => exact ⟨0, rfl, by omega, by omega, HI3, HL3, H3, HB3⟩
      case round =>
        obtain ⟨q, rfl, hq2, hgq, JI, JL, JV, JB⟩ := hrel
        clear HI3 HL3 H3 HB3
        obtain ⟨wo, rfl⟩ : ∃ wo, wo = wr := ⟨_, rfl⟩
        by_cases hq : q < 2
        · have hqz : (q : Int) < 2 := by omega
          obtain ⟨b0, b1, b2, b3, b4⟩ := JV.out
          go_wp2_with fail
          refine (free_any v I n ci D er m E HE.out _ JI.out).mono ?_
          rintro e w4 ⟨A, cap, rfl, hNA, hb4⟩
          obtain ⟨d0, d1, d2, d3, d4⟩ := JV.out.below hb4
          clear b0 b1 b2 b3 b4
          go_wp2_with fail
          refine (rfree_any v a n c D er m E HE.out _ (JL.out.below hb4)).mono ?_
          rintro e w5 ⟨A2, cap2, rfl, hNB, hb5⟩
          have HNA := Lib.hid (hNA.below hb5)
          have HNB := Lib.hid hNB
          have HZ5 := Lib.hid (below_tr hb4 hb5)
          clear hNA hNB hb4 hb5 d0 d1 d2 d3 d4
          go_wp2_with fail
          refine (same_new A A2 m cap cap2 _ _ E _ (by omega) HNA.out HNB.out).mono ?_
          rintro e w6 ⟨rfl, hb6⟩
          have HN6 : Hid (∀ g, 0 < m → A = some ⟨g, 0, none⟩ → wo.heap.size ≤ g ∧ g < w6.heap.size ∧ ∀ t, t < m * 4 → (w6.cell? ⟨g, t, none⟩).isSome = true ∧ w6.frozen? ⟨g, t, none⟩ = false) := Lib.hid (fun g hmp hA => by
            obtain ⟨g', e, h1, h2⟩ := HNA.out hmp
            rw [hA] at e
            simp only [Option.some.injEq, Addr.mk.injEq, and_true] at e
            subst e
            have h3 := h2.below hb6
            refine ⟨h1, h3.lt, fun t ht => ⟨?_, h3.fz t ht⟩⟩
            obtain ⟨k0, k1, k2, k3, _⟩ := h3.at' (t / 4) (by omega)
            have e4 : t = t / 4 * 4 + t % 4 := by omega
            have : t % 4 < 4 := Nat.mod_lt _ (by decide)
            rcases (show t % 4 = 0 ∨ t % 4 = 1 ∨ t % 4 = 2 ∨ t % 4 = 3 by omega) with h | h | h | h
            · rw [show t = t / 4 * 4 by omega, k0]; rfl
            · rw [show t = t / 4 * 4 + 1 by omega, k1]; rfl
            · rw [show t = t / 4 * 4 + 2 by omega, k2]; rfl
            · rw [show t = t / 4 * 4 + 3 by omega, k3]; rfl)
          have HZ6 := Lib.hid (below_tr HZ5.out hb6)
          have HA1 : Hid (0 < m → ∃ g, A = some ⟨g, 0, none⟩) := Lib.hid (fun h => by obtain ⟨g, e, _⟩ := HNA.out h; exact ⟨g, e⟩)
          clear hb6 HNA HNB HZ5
          go_wp2_with fail
          go_loopg [18] m (fun gi s18 wi => ∃ j : Nat, s18 = .int .i64 j ∧ j ≤ m ∧ m - j ≤ gi ∧ Hid (Below wo.heap.size wo wi) ∧ Hid (∀ g, 0 < m → A = some ⟨g, 0, none⟩ → wo.heap.size ≤ g ∧ g < wi.heap.size ∧ ∀ t, t < m * 4 → (wi.cell? ⟨g, t, none⟩).isSome = true ∧ wi.frozen? ⟨g, t, none⟩ = false))
          case atStart => exact ⟨0, rfl, Nat.zero_le _, by omega, HZ6, HN6⟩
          case round =>
            obtain ⟨j, rfl, hjm, hgi, KB, KN⟩ := hrel
            clear HZ6 HN6
            by_cases hj : j < m
            · have hjz : (j : Int) < (m : Int) := by omega
              have y1 : ¬ m ≤ j := by omega
              obtain ⟨g, rfl⟩ := HA1.out (by omega)
              obtain ⟨hgo, hgl, hcf⟩ := KN.out g (by omega) rfl
              obtain ⟨old, hold⟩ := Option.isSome_iff_exists.1 (hcf (j * 4 + 1) (by omega)).1
              have hfz := (hcf (j * 4 + 1) (by omega)).2
              have HCF := Lib.hid hcf
              have HGO := Lib.hid (And.intro hgo hgl)
              clear hcf hgo hgl
              go_wp2_with fail
              go_roundg (m - (j + 1))
              case measure => omega
              case rel =>
                refine ⟨j + 1, by go_num, by omega, Nat.le_refl _, Lib.hid (KB.out.setCell (p := ⟨g, j * 4 + 1, none⟩) HGO.out.1 _), Lib.hid (fun g' hmp hA => ?_)⟩
                simp only [Option.some.injEq, Addr.mk.injEq, and_true] at hA
                subst hA
                refine ⟨HGO.out.1, by simp [World.setCell]; exact HGO.out.2, fun t ht => ⟨?_, by rw [World.frozen?_setCell]; exact (HCF.out t ht).2⟩⟩
                by_cases e : t = j * 4 + 1
                · subst e
                  rw [World.cell?_setCell_same' _ _ _ (HCF.out _ ht).1]; rfl
                · rw [World.cell?_setCell_other _ _ _ _ (by intro h; injection h with _ h2 _; exact e h2.symm)]
                  exact (HCF.out t ht).1
            · have hjz : ¬ (j : Int) < (m : Int) := by omega
              go_wp2_with fail
              go_roundg (2 - (q + 1))
              case measure => omega
              case rel => exact ⟨q + 1, by go_num, by omega, Nat.le_refl _, Lib.hid (JI.out.below KB.out), Lib.hid (JL.out.below KB.out), Lib.hid (JV.out.below KB.out), Lib.hid (JB.out.trans (KB.out.mono JB.out.size))⟩
        · have hqz : ¬ (q : Int) < 2 := by omega
          go_wp2_with fail
          refine (same_sl I a n ci c D _ JI.out JL.out).mono ?_
          rintro e w7 ⟨rfl, hb7⟩
          go_wp2_with fail
          refine (awake_is _).mono ?_
          rintro e w8 ⟨rfl, hb8⟩
          go_wp2_with fail
          go_ret
          exact ⟨rfl, below_tr JB.out (below_tr hb7 hb8)⟩

theorem lists_law (v : Val) (r : Rw) (w : World) (hin : r.In w) :
    Calls Try.prog 4 #[.agg #[.int .u8 v.k, .int .i64 v.n, .int .i64 v.u, .string v.t], .slice r.a r.len r.cap] w fun e w' => e = .returned (.bool true) ∧ Below w.heap.size w w' := by
  obtain ⟨a, n, c, D⟩ := r
  rcases Nat.lt_or_ge 100 n with h | h
  · exact lists_a v a n c h w
  have hc : c ≤ 9223372036854775807 := by have h2 : c ≤ maxLen := hin.cm; unfold maxLen at h2; omega
  exact lists_b v a n c h D w ⟨hin.lc, hc, by omega, hin.at'⟩
end Go.Proofs.Ytnifpphimodonaa
