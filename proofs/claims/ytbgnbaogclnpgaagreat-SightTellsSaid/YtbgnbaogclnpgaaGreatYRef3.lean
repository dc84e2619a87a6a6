/-
  The document's own table of transactions (stage 9): Abort, Commit: walked.
-/
import Derived.Test.YtbgnbaogclnpgaaGreatYRef2
namespace Go.Proofs.YtbgnbaogclnpgaaGreat
open Go.RowKit
set_option linter.unusedVariables false

/-- Those up to j have got their state. -/
def Tb.mid (T : Tb) (id s j : Nat) : Tb := { T with st := fun i => if i ≤ j then (T.fin id s).st i else T.st i }

theorem und_bel {T : Tb} {a c : Nat} (h1 : 1 ≤ c) (h2 : c ≤ T.n) : Und T.par a c ↔ (c = a ∨ Bel T a c) := by
  constructor
  · intro h
    rcases h.cases' with h | ⟨h3, h4⟩
    · exact .inl h
    · exact .inr ⟨h1, h2, h3, h4⟩
  · rintro (rfl | ⟨_, _, h3, h4⟩)
    · exact .self
    · exact .up h3 h4

theorem mid_hit {T : Tb} (hok : T.Ok) {id s j : Nat} (hj : j < T.n) (hu : Und T.par id (j + 1)) (hs : T.st (j + 1) ≤ s) (i : Nat) (hi : i < T.n) :
    recR (T.mid id s (j + 1)) i = updR (recR (T.mid id s j)) j ((recR (T.mid id s j) j).set 1 (.int .u8 s)) i := by
  have hf := Tb.fin_st hok (k := j + 1) (by omega) (by omega) id s
  have e : (T.fin id s).st (j + 1) = s := by
    rcases hf with ⟨_, _, e⟩ | ⟨h, e⟩
    · exact e
    · rw [e]
      have : ¬ T.st (j + 1) < s := fun h2 => h ⟨hu, h2⟩
      omega
  unfold updR
  by_cases hij : i = j
  · subst hij
    simp only [if_true, recR, Tb.mid, if_pos (Nat.le_refl _), if_neg (show ¬ i + 1 ≤ i by omega), e, List.set]
  · simp only [if_neg hij, recR, Tb.mid]
    by_cases hl : i + 1 ≤ j
    · rw [if_pos hl, if_pos (by omega)]
    · rw [if_neg hl, if_neg (by omega)]

theorem mid_miss {T : Tb} (hok : T.Ok) {id s j : Nat} (hj : j < T.n) (hu : ¬ (Und T.par id (j + 1) ∧ T.st (j + 1) < s)) (i : Nat) (hi : i < T.n) :
    recR (T.mid id s (j + 1)) i = recR (T.mid id s j) i := by
  have hf := Tb.fin_st hok (k := j + 1) (by omega) (by omega) id s
  have e : (T.fin id s).st (j + 1) = T.st (j + 1) := by
    rcases hf with ⟨h1, h2, e⟩ | ⟨h, e⟩
    · exact absurd ⟨h1, h2⟩ hu
    · exact e
  by_cases hij : i = j
  · subst hij
    simp only [recR, Tb.mid, if_pos (Nat.le_refl _), if_neg (show ¬ i + 1 ≤ i by omega), e]
  · simp only [recR, Tb.mid]
    by_cases hl : i + 1 ≤ j
    · rw [if_pos hl, if_pos (by omega)]
    · rw [if_neg hl, if_neg (by omega)]

theorem mid_end {T : Tb} {id s : Nat} (i : Nat) (hi : i < T.n) : recR (T.fin id s) i = recR (T.mid id s T.n) i := by
  simp only [recR, Tb.mid, if_pos (show i + 1 ≤ T.n by omega)]
  rfl

theorem mid_start {T : Tb} {id s : Nat} (i : Nat) (hi : i < T.n) : recR (T.mid id s 0) i = recR T i := by
  simp only [recR, Tb.mid, if_neg (show ¬ i + 1 ≤ 0 by omega)]

theorem RawR.congr {W : World} {x : Nat} {s : Value} {n : Nat} {last : Int} {f g : Nat → List Value} {F : Nat → Prop} (h : RawR W x s n last f F) (hf : ∀ j, j < n → g j = f j) : RawR W x s n last g F := ⟨h.lit, h.row.congr hf, h.own, h.ft, h.lt⟩

/-- The copy ahead of the loop. -/
theorem endR_ready {w w1 : World} {x : Nat} {T : Tb} {F : Nat → Prop} {n : Nat} (hn : T.n = n) (hp : 0 < n) (hs : n ≤ 1000) (h : IsR w1 x T F) (hb : Below w.heap.size w w1) (id s : Nat) :
    ∃ (b0 c0 b c : Nat) (W2 : World) (F' : Nat → Prop), x < w1.heap.size ∧ w1.cell? ⟨x, 0, none⟩ = some (.slice (some ⟨b0, 0, none⟩) n c0) ∧ x < (w1.alloc (.cells #[] 120)).heap.size ∧ (w1.alloc (.cells #[] 120)).cell? ⟨x, 0, none⟩ = some (.slice (some ⟨b0, 0, none⟩) n c0) ∧
      (∀ ty, (Builtin.append_ #[77, 77] ty #[.slice (some ⟨w1.heap.size, 0, none⟩) 0 0, .slice (some ⟨b0, 0, none⟩) n c0]).run Tryz.prog (w1.alloc (.cells #[] 120)) = .ok (.slice (some ⟨b, 0, none⟩) n c) W2) ∧
      x < W2.heap.size ∧ W2.cell? ⟨x, 0, none⟩ = some (.slice (some ⟨b0, 0, none⟩) n c0) ∧ W2.frozen? ⟨x, 0, none⟩ = false ∧
      RawR (W2.setCell ⟨x, 0, none⟩ (.slice (some ⟨b, 0, none⟩) n c)) x (.slice (some ⟨b, 0, none⟩) n c) n T.last (recR (T.mid id s 0)) F' ∧ (∀ k, F' k → F k ∨ w.heap.size ≤ k) ∧ ∀ G : Nat → Prop, (∀ k, F k → G k) → Touch G w1 (W2.setCell ⟨x, 0, none⟩ (.slice (some ⟨b, 0, none⟩) n c)) := by
  obtain ⟨v, hr⟩ := h.raw
  rw [hn] at hr
  obtain ⟨b0, c0, rfl, _⟩ := hr.row.at hp
  have hx := hr.lt x hr.ft
  obtain ⟨a1, c1, W2, r1, row1, own1, bel1⟩ := copy_run hr.row (fun j _ => recR_one T j) (by omega)
  obtain ⟨b, c, e, _⟩ := row1.at hp
  rw [e] at r1 row1 own1
  obtain ⟨l1, l2, l3⟩ := hr.put bel1 row1 own1
  have hal := Below.allocs w1 (.cells #[] 120)
  have hbs := hb.size
  refine ⟨b0, c0, b, c, W2, fun k => F k ∨ (w1.heap.size ≤ k ∧ k < W2.heap.size), hx, hr.lit.cell (o := 0) rfl, Nat.lt_of_lt_of_le hx hal.size, (hr.lit.below hal).cell (o := 0) rfl, r1, Nat.lt_of_lt_of_le hx bel1.size, l1.cell (o := 0) rfl, l1.fz 0, l2.congr fun j hj => mid_start j (by omega), fun k hk => ?_, fun G hG => l3.mono hG⟩
  rcases hk with hk | hk
  · exact .inl hk
  · exact .inr (by omega)

theorem RawR.mid {W : World} {x b c n : Nat} {T : Tb} {id s j : Nat} {F : Nat → Prop} (hok : T.Ok) (hn : T.n = n) (h : RawR W x (.slice (some ⟨b, 0, none⟩) n c) n T.last (recR (T.mid id s j)) F) : IsR W x (T.mid id s j) F :=
  h.is (by show T.n = n; exact hn) rfl (fun k h1 h2 => hok.par_lt k h1 (by omega)) fun _ _ => rfl

/-- What a turn of the loop reads. -/
theorem RawR.reads {W : World} {x b c n : Nat} {la : Int} {T : Tb} {id s j : Nat} {F : Nat → Prop} (h : RawR W x (.slice (some ⟨b, 0, none⟩) n c) n la (recR (T.mid id s j)) F) : x < W.heap.size ∧ W.cell? ⟨x, 0, none⟩ = some (.slice (some ⟨b, 0, none⟩) n c) ∧
    (j < n → b < W.heap.size ∧ W.cell? ⟨b, j * 3 + 1, none⟩ = some (.int .u8 (T.st (j + 1))) ∧ W.frozen? ⟨b, j * 3 + 1, none⟩ = false) := by
  refine ⟨h.lt x h.ft, h.lit.cell (o := 0) rfl, fun hj => ?_⟩
  obtain ⟨b', c', e, _, _, hb, hat, hfz⟩ := h.row.at hj
  cases e
  have := hat j hj 1 _ rfl
  unfold Tb.mid at this
  simp only [if_neg (show ¬ j + 1 ≤ j by omega)] at this
  exact ⟨hb, this, hfz _⟩

/-- TOne gets its state. -/
theorem RawR.hit {w W : World} {x b c n : Nat} {la : Int} {T : Tb} {id s j : Nat} {F F' : Nat → Prop} (hok : T.Ok) (hn : T.n = n) (h : RawR W x (.slice (some ⟨b, 0, none⟩) n c) n la (recR (T.mid id s j)) F') (hF : ∀ k, F' k → F k ∨ w.heap.size ≤ k) (ht : Touch F w W) (hj : j < n) (hu : Und T.par id (j + 1)) (hs : T.st (j + 1) ≤ s) :
    RawR (W.setCell ⟨b, j * 3 + 1, none⟩ (.int .u8 s)) x (.slice (some ⟨b, 0, none⟩) n c) n la (recR (T.mid id s (j + 1))) F' ∧ Touch F w (W.setCell ⟨b, j * 3 + 1, none⟩ (.int .u8 s)) := by
  obtain ⟨h1, h2⟩ := h.set (b := b) rfl hj (show 1 < 3 by omega) (o := j * 3 + 1) rfl (.int .u8 s)
  exact ⟨h1.congr fun i hi => mid_hit hok (by omega) hu hs i (by omega), ht.trans h2 fun k hk hf => (hF k hf).elim (fun h => h) (fun h => by omega)⟩

theorem RawR.miss {W : World} {x b c n : Nat} {la : Int} {T : Tb} {id s j : Nat} {F : Nat → Prop} (hok : T.Ok) (hn : T.n = n) (h : RawR W x (.slice (some ⟨b, 0, none⟩) n c) n la (recR (T.mid id s j)) F) (hj : j < n) (hu : ¬ (Und T.par id (j + 1) ∧ T.st (j + 1) < s)) :
    RawR W x (.slice (some ⟨b, 0, none⟩) n c) n la (recR (T.mid id s (j + 1))) F := h.congr fun i hi => mid_miss hok (by omega) hu i (by omega)

theorem RawR.fin {W : World} {x b c n : Nat} {T : Tb} {id s : Nat} {F : Nat → Prop} (hok : T.Ok) (hn : T.n = n) (h : RawR W x (.slice (some ⟨b, 0, none⟩) n c) n T.last (recR (T.mid id s n)) F) : IsR W x (T.fin id s) F :=
  h.is (by show T.n = n; exact hn) rfl (fun k h1 h2 => hok.par_lt k h1 (by omega)) fun j hj => by rw [← hn]; exact mid_end j (by omega)

/-- What a call that changes the document's table leaves. -/
def EndR (w : World) (x : Nat) (F : Nat → Prop) (T' : Tb) (v : Value) (e : Ending) (w' : World) : Prop := ∃ F', e = .returned v ∧ IsR w' x T' F' ∧ (∀ k, F' k → F k ∨ w.heap.size ≤ k) ∧ Touch F w w'

set_option maxRecDepth 100000 in
set_option maxHeartbeats 4000000 in
theorem abortR_ok (w : World) (x : Nat) (T : Tb) (F : Nat → Prop) (hok : T.Ok) (hs : T.n ≤ 1000) (k : Nat) (hk : k < T.n) (hst : T.st (k + 1) = 1) (h : IsR w x T F) :
    Calls Tryz.prog 36 #[.pointer (some ⟨x, 0, none⟩), .int .i64 ((k : Int) + 1)] w fun e w' => EndR w x F (T.fin (k + 1) 3) (.int .i64 0) e w' := by
  have hcon := is_is w x T F ((k : Int) + 1) true (decide_eq_true (by omega)) h
  obtain ⟨n, hn⟩ : ∃ n, T.n = n := ⟨_, rfl⟩
  have HR : Hid (∀ w1, Below w.heap.size w w1 → _) := Lib.hid (fun w1 (hb : Below w.heap.size w w1) => endR_ready (w := w) hn (by omega) (by omega) (h.below hb) hb (k + 1) 3)
  have HH := Lib.hid h
  have HOK := Lib.hid hok
  have HN := Lib.hid hn
  have hkn : (k : Int) < n := by omega
  have hk0 : (0 : Int) ≤ k := by omega
  have HW : Hid (wrap64 (k : Int) = k) := Lib.hid (wr0 (by omega))
  have HST := Lib.hid hst
  have HST2 : Hid ((T.st (k + 1) : Int) = 1) := Lib.hid (by omega)
  have HKT := Lib.hid hk
  have HN1000 : Hid (n ≤ 1000) := Lib.hid (by omega)
  clear h hok hst hk hn hs
  go_enter Tryz.func36, Tryz.ntmps36
  go_wp2_with fail
  refine (show Calls Tryz.prog _ _ _ _ from hcon).mono ?_
  rintro e w1 ⟨rfl, hb⟩
  obtain ⟨b9, c9, d0, d1, d2, d3, d4, d5, d6⟩ := (HH.out.below hb).at (j := k) HKT.out
  rw [HN.out] at d1 d2
  rw [HST2.out] at d5
  obtain ⟨b0, c0, b, c, W2, F', e0, e1, e2, e3, r1, e4, e5, e6, hraw, hF', htou⟩ := HR.out w1 hb
  rw [e1] at d1
  obtain ⟨rfl, rfl⟩ : b0 = b9 ∧ c0 = c9 := by simpa using d1
  have HR1 := Lib.hid r1
  have HRAW := Lib.hid hraw
  have HF := Lib.hid hF'
  have HT := Lib.hid ((Touch.of_below (F := F) hb).trans (htou F (fun _ h => h)) (fun _ _ h => h))
  have hw := HW.out
  clear hcon hb r1 hraw hF' htou d1 d4 d6 HR HH
  go_wp2_with (at_builtin; refine append_dst 26 rfl ?_; refine append_stepW rfl _ _ 77 rfl _ _ _ _ rfl rfl (HR1.out _) ?_)
  obtain ⟨W3, hW3⟩ : ∃ W3, W2.setCell ⟨x, 0, none⟩ (.slice (some ⟨b, 0, none⟩) n c) = W3 := ⟨_, rfl⟩
  rw [hW3] at HRAW HT ⊢
  clear e0 e1 e2 e3 e4 e5 e6 hW3 d0 d2 d3 d5 HR1 hw
  go_loopg [5] n (fun gg s wr => ∃ (j : Nat), s = .int .i64 ((j : Int) + 1) ∧ j ≤ n ∧ n - j ≤ gg ∧ Hid (RawR wr x (.slice (some ⟨b, 0, none⟩) n c) n T.last (recR (T.mid (k + 1) 3 j)) F') ∧ Hid (Touch F w wr))
  case atStart => exact ⟨0, by simp, Nat.zero_le _, by omega, HRAW, HT⟩
  case round =>
    obtain ⟨j, rfl, hjn, hjg, HRAW2, HT2⟩ := hrel
    clear HRAW HT
    obtain ⟨q0, q1, q2⟩ := HRAW2.out.reads
    by_cases hlt : j < n
    · have hltz : (j : Int) + 1 ≤ (n : Int) := by omega
      have hjn0 : (j : Int) < n := by omega
      have hj0 : (0 : Int) ≤ j := by omega
      have HWJ : Hid (wrap64 (j : Int) = j) := Lib.hid (wr0 (by have := HN1000.out; omega))
      have HJ := Lib.hid hlt
      by_cases hkj : k = j
      · subst hkj
        obtain ⟨q3, q4, q5⟩ := q2 hlt
        rw [HST2.out] at q4
        obtain ⟨hh, ht⟩ := HRAW2.out.hit (w := w) HOK.out HN.out HF.out HT2.out HJ.out .self (by rw [HST.out]; omega)
        have HH2 := Lib.hid hh
        have HT3 := Lib.hid ht
        have hw := HWJ.out
        clear q2 hh ht HT2 HRAW2
        go_wp2_with fail
        clear hw
        go_roundg (n - (k + 1))
        case measure => omega
        case rel => exact ⟨k + 1, by have hn1000 := HN1000.out; rw [show wrap64 ((k : Int) + 1 + 1) = (k : Int) + 1 + 1 from wr0 (by omega)]; exact congrArg (Value.int .i64) (by omega), by omega, Nat.le_refl _, HH2, HT3⟩
      · have hkjz : ¬ (j : Int) + 1 = (k : Int) + 1 := by omega
        have hkjz2 : ¬ (j : Int) = (k : Int) := by omega
        have hkjb : ((j : Int) == (k : Int)) = false := by simpa using hkjz2
        obtain ⟨z2, hz2⟩ := bel_bool T (k + 1) (j + 1)
        have hcon := belR_is wr x (T.mid (k + 1) 3 j) F' (by have := HN.out; have := HN1000.out; show T.n ≤ 1000; omega) (j + 1) (k + 1) (by have := HN.out; show j + 1 ≤ T.n; omega) (by have := HKT.out; show k + 1 ≤ T.n; omega) z2 hz2 (HRAW2.out.mid HOK.out HN.out)
        rw [show ((j + 1 : Nat) : Int) = (j : Int) + 1 by omega, show ((k + 1 : Nat) : Int) = (k : Int) + 1 by omega] at hcon
        have HZ2 := Lib.hid hz2
        have HKJ := Lib.hid hkj
        clear q2 hz2 hkj
        go_wp2_with fail
        refine (show Calls Tryz.prog _ _ _ _ from hcon).mono ?_
        rintro e w5 ⟨rfl, hb⟩
        have HRAW3 := Lib.hid (HRAW2.out.below hb)
        have HT3 := Lib.hid (HT2.out.trans (Touch.of_below hb) (fun _ _ h => h))
        clear hcon hb HRAW2 HT2 q0 q1
        obtain ⟨q0, q1, q2⟩ := HRAW3.out.reads
        obtain ⟨q3, q4, q5⟩ := q2 HJ.out
        clear q2
        cases z2 with
        | false =>
          have HH2 := Lib.hid (HRAW3.out.miss HOK.out HN.out HJ.out (fun hx => by
            rcases (und_bel (by omega) (by have := HN.out; have := HJ.out; omega)).1 hx.1 with h | h
            · have := HKJ.out; omega
            · exact absurd (HZ2.out.2 h) (by decide)))
          have hw := HWJ.out
          clear HRAW3
          go_wp2_with fail
          clear hw
          go_roundg (n - (j + 1))
          case measure => omega
          case rel => exact ⟨j + 1, by have hn1000 := HN1000.out; rw [show wrap64 ((j : Int) + 1 + 1) = (j : Int) + 1 + 1 from wr0 (by omega)]; exact congrArg (Value.int .i64) (by omega), by omega, Nat.le_refl _, HH2, HT3⟩
        | true =>
          have HU : Hid (Und T.par (k + 1) (j + 1)) := Lib.hid ((und_bel (by omega) (by have := HN.out; have := HJ.out; omega)).2 (.inr (HZ2.out.1 rfl)))
          have HST3 : Hid (T.st (j + 1) ≤ 3) := Lib.hid (HOK.out.st1 (j + 1) (by omega) (by have := HN.out; have := HJ.out; omega)).2
          obtain ⟨hh, ht⟩ := HRAW3.out.hit (w := w) HOK.out HN.out HF.out HT3.out HJ.out HU.out (by have hx := HST3.out; omega)
          have HH2 := Lib.hid hh
          have HT4 := Lib.hid ht
          have hw := HWJ.out
          clear hh ht HT3 HRAW3
          go_wp2_with fail
          clear hw
          go_roundg (n - (j + 1))
          case measure => omega
          case rel => exact ⟨j + 1, by have hn1000 := HN1000.out; rw [show wrap64 ((j : Int) + 1 + 1) = (j : Int) + 1 + 1 from wr0 (by omega)]; exact congrArg (Value.int .i64) (by omega), by omega, Nat.le_refl _, HH2, HT4⟩
    · obtain rfl : j = n := by omega
      have hltz : ¬ (j : Int) + 1 ≤ (j : Int) := by omega
      have HFIN := Lib.hid (HRAW2.out.fin HOK.out HN.out)
      clear HRAW2 q2
      go_wp2_with fail
      go_ret
      exact ⟨F', rfl, HFIN.out, HF.out, HT2.out⟩

/-- A number is given. -/
theorem RawR.give {W : World} {x b c n : Nat} {T : Tb} {id : Nat} {F : Nat → Prop} (hok : T.Ok) (hn : T.n = n) (h : RawR W x (.slice (some ⟨b, 0, none⟩) n c) n T.last (recR (T.mid id 2 n)) F) {k : Nat} (hk : k < n) :
    W.cell? ⟨x, 1, none⟩ = some (.int .i64 T.last) ∧ W.frozen? ⟨x, 1, none⟩ = false ∧ b < W.heap.size ∧
      ((W.setCell ⟨x, 1, none⟩ (.int .i64 ((T.last : Int) + 1))).cell? ⟨x, 0, none⟩ = some (.slice (some ⟨b, 0, none⟩) n c) ∧ (W.setCell ⟨x, 1, none⟩ (.int .i64 ((T.last : Int) + 1))).cell? ⟨x, 1, none⟩ = some (.int .i64 ((T.last : Int) + 1))) ∧
      ((W.setCell ⟨x, 1, none⟩ (.int .i64 ((T.last : Int) + 1))).cell? ⟨b, k * 3 + 2, none⟩ = some (.int .i64 (T.num (k + 1))) ∧ (W.setCell ⟨x, 1, none⟩ (.int .i64 ((T.last : Int) + 1))).frozen? ⟨b, k * 3 + 2, none⟩ = false ∧ b < (W.setCell ⟨x, 1, none⟩ (.int .i64 ((T.last : Int) + 1))).heap.size ∧ x < (W.setCell ⟨x, 1, none⟩ (.int .i64 ((T.last : Int) + 1))).heap.size) ∧
      IsR (((W.setCell ⟨x, 1, none⟩ (.int .i64 ((T.last : Int) + 1))).drew).setCell ⟨b, k * 3 + 2, none⟩ (.int .i64 ((T.last : Int) + 1))) x ((T.fin id 2).give (k + 1)) F ∧ Touch F W (((W.setCell ⟨x, 1, none⟩ (.int .i64 ((T.last : Int) + 1))).drew).setCell ⟨b, k * 3 + 2, none⟩ (.int .i64 ((T.last : Int) + 1))) := by
  obtain ⟨h1, h2⟩ := h.setLast ((T.last : Int) + 1)
  obtain ⟨h3, h4⟩ := h1.drew.set (b := b) rfl hk (show 2 < 3 by omega) (o := k * 3 + 2) rfl (.int .i64 ((T.last : Int) + 1))
  have hbl := h.lt b (h.own b rfl).1
  obtain ⟨b', c', e, _, _, _, hat, hfz⟩ := h1.row.at hk
  cases e
  refine ⟨h.lit.cell (o := 1) rfl, h.lit.fz 1, hbl, ⟨h1.lit.cell (o := 0) rfl, h1.lit.cell (o := 1) rfl⟩, ⟨hat k hk 2 _ rfl, hfz _, h1.lt b (h1.own b rfl).1, h1.lt x h1.ft⟩, h3.is (by show T.n = n; exact hn) rfl (fun k h1 h2 => hok.par_lt k h1 (by omega)) fun j hj => ?_, (h2.trans (Touch.of_below (below_drw _)) (fun _ _ h => h)).trans h4 (fun _ _ h => h)⟩
  have he := mid_end (T := T) (id := id) (s := 2) j (by omega)
  rw [hn] at he
  unfold updR
  by_cases hj : j = k
  · subst hj
    rw [if_pos rfl, ← he]
    simp only [recR, Tb.give, upd_same, List.set]
    rfl
  · rw [if_neg hj, ← he]
    simp only [recR, Tb.give, upd_ne _ _ _ (show j + 1 ≠ k + 1 by omega)]

set_option maxRecDepth 100000 in
set_option maxHeartbeats 4000000 in
theorem commitR_ok (w : World) (x : Nat) (T : Tb) (F : Nat → Prop) (hok : T.Ok) (hs : T.n ≤ 1000) (hla : T.last ≤ 1000) (k : Nat) (hk : k < T.n) (hst : T.st (k + 1) = 1) (h : IsR w x T F) :
    Calls Tryz.prog 35 #[.pointer (some ⟨x, 0, none⟩), .int .i64 ((k : Int) + 1)] w fun e w' => EndR w x F (T.com (k + 1)) (.int .i64 0) e w' := by
  have mixed : Tryz.prog.follows Departure.mixedOrders = true := by kernel_rfl
  have hcon := is_is w x T F ((k : Int) + 1) true (decide_eq_true (by omega)) h
  obtain ⟨n, hn⟩ : ∃ n, T.n = n := ⟨_, rfl⟩
  have HR : Hid (∀ w1, Below w.heap.size w w1 → _) := Lib.hid (fun w1 (hb : Below w.heap.size w w1) => endR_ready (w := w) hn (by omega) (by omega) (h.below hb) hb (k + 1) 2)
  have HH := Lib.hid h
  have HOK := Lib.hid hok
  have HN := Lib.hid hn
  have hkn : (k : Int) < n := by omega
  have hk0 : (0 : Int) ≤ k := by omega
  have HW : Hid (wrap64 (k : Int) = k) := Lib.hid (wr0 (by omega))
  have HST := Lib.hid hst
  have HST2 : Hid ((T.st (k + 1) : Int) = 1) := Lib.hid (by omega)
  have HKT := Lib.hid hk
  have HN1000 : Hid (n ≤ 1000) := Lib.hid (by omega)
  have HLA : Hid (T.last ≤ 1000) := Lib.hid hla
  clear hla
  clear h hok hst hk hn hs
  go_enter Tryz.func35, Tryz.ntmps35
  go_wp2_with fail
  refine (show Calls Tryz.prog _ _ _ _ from hcon).mono ?_
  rintro e w1 ⟨rfl, hb⟩
  obtain ⟨b9, c9, d0, d1, d2, d3, d4, d5, d6⟩ := (HH.out.below hb).at (j := k) HKT.out
  rw [HN.out] at d1 d2
  rw [HST2.out] at d5
  obtain ⟨b0, c0, b, c, W2, F', e0, e1, e2, e3, r1, e4, e5, e6, hraw, hF', htou⟩ := HR.out w1 hb
  rw [e1] at d1
  obtain ⟨rfl, rfl⟩ : b0 = b9 ∧ c0 = c9 := by simpa using d1
  have HR1 := Lib.hid r1
  have HRAW := Lib.hid hraw
  have HF := Lib.hid hF'
  have HT := Lib.hid ((Touch.of_below (F := F) hb).trans (htou F (fun _ h => h)) (fun _ _ h => h))
  have hw := HW.out
  clear hcon hb r1 hraw hF' htou d1 d4 d6 HR HH
  go_wp2_with (at_builtin; refine append_dst 26 rfl ?_; refine append_stepW rfl _ _ 77 rfl _ _ _ _ rfl rfl (HR1.out _) ?_)
  obtain ⟨W3, hW3⟩ : ∃ W3, W2.setCell ⟨x, 0, none⟩ (.slice (some ⟨b, 0, none⟩) n c) = W3 := ⟨_, rfl⟩
  rw [hW3] at HRAW HT ⊢
  clear e0 e1 e2 e3 e4 e5 e6 hW3 d0 d2 d3 d5 HR1 hw
  go_loopg [5] n (fun gg s wr => ∃ (j : Nat), s = .int .i64 ((j : Int) + 1) ∧ j ≤ n ∧ n - j ≤ gg ∧ Hid (RawR wr x (.slice (some ⟨b, 0, none⟩) n c) n T.last (recR (T.mid (k + 1) 2 j)) F') ∧ Hid (Touch F w wr))
  case atStart => exact ⟨0, by simp, Nat.zero_le _, by omega, HRAW, HT⟩
  case round =>
    obtain ⟨j, rfl, hjn, hjg, HRAW2, HT2⟩ := hrel
    clear HRAW HT
    obtain ⟨q0, q1, q2⟩ := HRAW2.out.reads
    by_cases hlt : j < n
    · have hltz : (j : Int) + 1 ≤ (n : Int) := by omega
      have hjn0 : (j : Int) < n := by omega
      have hj0 : (0 : Int) ≤ j := by omega
      have HWJ : Hid (wrap64 (j : Int) = j) := Lib.hid (wr0 (by have := HN1000.out; omega))
      have HJ := Lib.hid hlt
      by_cases hkj : k = j
      · subst hkj
        obtain ⟨q3, q4, q5⟩ := q2 hlt
        rw [HST2.out] at q4
        obtain ⟨hh, ht⟩ := HRAW2.out.hit (w := w) HOK.out HN.out HF.out HT2.out HJ.out .self (by rw [HST.out]; omega)
        have HH2 := Lib.hid hh
        have HT3 := Lib.hid ht
        have hw := HWJ.out
        clear q2 hh ht HT2 HRAW2
        go_wp2_with fail
        clear hw
        go_roundg (n - (k + 1))
        case measure => omega
        case rel => exact ⟨k + 1, by have hn1000 := HN1000.out; rw [show wrap64 ((k : Int) + 1 + 1) = (k : Int) + 1 + 1 from wr0 (by omega)]; exact congrArg (Value.int .i64) (by omega), by omega, Nat.le_refl _, HH2, HT3⟩
      · have hkjz : ¬ (j : Int) + 1 = (k : Int) + 1 := by omega
        have hkjz2 : ¬ (j : Int) = (k : Int) := by omega
        have hkjb : ((j : Int) == (k : Int)) = false := by simpa using hkjz2
        obtain ⟨z2, hz2⟩ := bel_bool T (k + 1) (j + 1)
        have hcon := belR_is wr x (T.mid (k + 1) 2 j) F' (by have := HN.out; have := HN1000.out; show T.n ≤ 1000; omega) (j + 1) (k + 1) (by have := HN.out; show j + 1 ≤ T.n; omega) (by have := HKT.out; show k + 1 ≤ T.n; omega) z2 hz2 (HRAW2.out.mid HOK.out HN.out)
        rw [show ((j + 1 : Nat) : Int) = (j : Int) + 1 by omega, show ((k + 1 : Nat) : Int) = (k : Int) + 1 by omega] at hcon
        have HZ2 := Lib.hid hz2
        have HKJ := Lib.hid hkj
        clear q2 hz2 hkj
        go_wp2_with fail
        refine (show Calls Tryz.prog _ _ _ _ from hcon).mono ?_
        rintro e w5 ⟨rfl, hb⟩
        have HRAW3 := Lib.hid (HRAW2.out.below hb)
        have HT3 := Lib.hid (HT2.out.trans (Touch.of_below hb) (fun _ _ h => h))
        clear hcon hb HRAW2 HT2 q0 q1
        obtain ⟨q0, q1, q2⟩ := HRAW3.out.reads
        obtain ⟨q3, q4, q5⟩ := q2 HJ.out
        clear q2
        cases z2 with
        | false =>
          have HH2 := Lib.hid (HRAW3.out.miss HOK.out HN.out HJ.out (fun hx => by
            rcases (und_bel (by omega) (by have := HN.out; have := HJ.out; omega)).1 hx.1 with h | h
            · have := HKJ.out; omega
            · exact absurd (HZ2.out.2 h) (by decide)))
          have hw := HWJ.out
          clear HRAW3
          go_wp2_with fail
          clear hw
          go_roundg (n - (j + 1))
          case measure => omega
          case rel => exact ⟨j + 1, by have hn1000 := HN1000.out; rw [show wrap64 ((j : Int) + 1 + 1) = (j : Int) + 1 + 1 from wr0 (by omega)]; exact congrArg (Value.int .i64) (by omega), by omega, Nat.le_refl _, HH2, HT3⟩
        | true =>
          have HU : Hid (Und T.par (k + 1) (j + 1)) := Lib.hid ((und_bel (by omega) (by have := HN.out; have := HJ.out; omega)).2 (.inr (HZ2.out.1 rfl)))
          obtain ⟨y, hy⟩ : ∃ y, T.st (j + 1) = y := ⟨_, rfl⟩
          rw [hy] at q4
          have HY := Lib.hid hy
          clear hy
          by_cases hy1 : y = 1
          · have HST3 : Hid (T.st (j + 1) ≤ 2) := Lib.hid (by rw [HY.out, hy1]; omega)
            subst hy1
            have q4' : w5.cell? ⟨b, j * 3 + 1, none⟩ = some (.int .u8 1) := q4
            clear q4
            obtain ⟨hh, ht⟩ := HRAW3.out.hit (w := w) HOK.out HN.out HF.out HT3.out HJ.out HU.out (by have hx := HST3.out; omega)
            have HH2 := Lib.hid hh
            have HT4 := Lib.hid ht
            have hw := HWJ.out
            clear hh ht HT3 HRAW3
            go_wp2_with fail
            clear hw
            go_roundg (n - (j + 1))
            case measure => omega
            case rel => exact ⟨j + 1, by have hn1000 := HN1000.out; rw [show wrap64 ((j : Int) + 1 + 1) = (j : Int) + 1 + 1 from wr0 (by omega)]; exact congrArg (Value.int .i64) (by omega), by omega, Nat.le_refl _, HH2, HT4⟩
          · have HH2 := Lib.hid (HRAW3.out.miss HOK.out HN.out HJ.out (fun hx => by
              have h1 := HOK.out.st1 (j + 1) (by omega) (by have := HN.out; have := HJ.out; omega)
              have h2 := hx.2
              rw [HY.out] at h1 h2
              omega))
            have hy1z : ¬ (y : Int) = 1 := by omega
            have hy1b : ((y : Int) == 1) = false := by simpa using hy1z
            have hw := HWJ.out
            clear HRAW3 hy1
            go_wp2_with fail
            clear hw
            go_roundg (n - (j + 1))
            case measure => omega
            case rel => exact ⟨j + 1, by have hn1000 := HN1000.out; rw [show wrap64 ((j : Int) + 1 + 1) = (j : Int) + 1 + 1 from wr0 (by omega)]; exact congrArg (Value.int .i64) (by omega), by omega, Nat.le_refl _, HH2, HT3⟩
    · obtain rfl : j = n := by omega
      have hltz : ¬ (j : Int) + 1 ≤ (j : Int) := by omega
      have HFIN := Lib.hid (HRAW2.out.fin HOK.out HN.out)
      obtain ⟨p, hp⟩ : ∃ p, T.par (k + 1) = p := ⟨_, rfl⟩
      obtain ⟨b9, c9, g0, g1, g2, g3, g4, g5, g6⟩ := HFIN.out.at (j := k) HKT.out
      have g4' : wr.cell? ⟨b9, k * 3, none⟩ = some (.int .i64 (p : Int)) := by rw [← hp]; exact g4
      rw [show (T.fin (k + 1) 2).n = T.n from rfl, HN.out, q1] at g1
      obtain ⟨rfl, rfl⟩ : b = b9 ∧ c = c9 := by simpa using g1
      have HP := Lib.hid hp
      clear hp g1 g2 g4 g5 g6 q2
      by_cases hp0 : p = 0
      · subst hp0
        have HC : Hid (T.com (k + 1) = (T.fin (k + 1) 2).give (k + 1)) := Lib.hid (by unfold Tb.com; rw [if_pos HP.out])
        obtain ⟨f1, f2, f3, f4, f5, f6, f7⟩ := RawR.give HOK.out HN.out HRAW2.out (k := k) (by have := HKT.out; have := HN.out; omega)
        have HG := Lib.hid f6
        have HTG := Lib.hid (HT2.out.trans f7 (fun m hm hf => (HF.out m hf).elim (fun h => h) (fun h => by omega)))
        obtain ⟨la, hla⟩ : ∃ la, T.last = la := ⟨_, rfl⟩
        have HLW : Hid (wrap64 ((la : Int) + 1) = (la : Int) + 1) := Lib.hid (wr0 (by have := HLA.out; omega))
        rw [hla] at f1 f4 f5 HG HTG
        have HF45 := Lib.hid (And.intro f4 f5)
        have hw := HW.out
        have hlw := HLW.out
        clear HRAW2 HFIN f4 f5 f6 f7 hla
        go_upto_region 13 with (fail)
        obtain ⟨W4, hW4⟩ : ∃ W4, wr.setCell ⟨x, 1, none⟩ (.int .i64 ((la : Int) + 1)) = W4 := ⟨_, rfl⟩
        rw [hW4] at HF45 HG HTG ⊢
        clear f1 f2 f3 hW4 g0 g3 g4' q0 q1
        obtain ⟨⟨f4, f4b⟩, f5, f5b, f5c, f5d⟩ := HF45.out
        go_still_tail 10, (by kernel_rfl)
        change wpList _ _ _ _ _ W4.drew
        have s5 : W4.drew.cell? ⟨b, k * 3 + 2, none⟩ = some (.int .i64 (T.num (k + 1))) := f5
        have s6 : W4.drew.frozen? ⟨b, k * 3 + 2, none⟩ = false := f5b
        have s7 : b < W4.drew.heap.size := f5c
        clear f4 f4b f5 f5b f5c f5d HF45
        generalize W4.drew = W5 at *
        go_wp2_with fail
        go_ret
        exact ⟨F', rfl, by rw [HC.out]; exact HG.out, HF.out, HTG.out⟩
      · have HC : Hid (T.com (k + 1) = T.fin (k + 1) 2) := Lib.hid (by unfold Tb.com; rw [HP.out, if_neg hp0])
        have hpz : ¬ (p : Int) = 0 := by omega
        have hw := HW.out
        clear HRAW2 hp0
        go_wp2_with fail
        go_ret
        exact ⟨F', rfl, by rw [HC.out]; exact HFIN.out, HF.out, HT2.out⟩

set_option maxRecDepth 100000 in
set_option maxHeartbeats 2000000 in
theorem abortR_no (w : World) (x : Nat) (T : Tb) (F : Nat → Prop) (p : Int) (hp : I64 p) (y : Int) (hy : T.err p = y) (hy0 : y ≠ 0) (h : IsR w x T F) :
    Calls Tryz.prog 36 #[.pointer (some ⟨x, 0, none⟩), .int .i64 p] w fun e w' => e = .returned (.int .i64 y) ∧ Below w.heap.size w w' := by
  rcases T.err_cases p with ⟨h0, _⟩ | ⟨h7, h1, h2, h3⟩ | ⟨h5, h1⟩
  · omega
  · obtain rfl : y = 7 := by omega
    obtain ⟨k, rfl⟩ : ∃ k : Nat, p = (k : Int) + 1 := ⟨(p - 1).toNat, by omega⟩
    rw [show ((k : Int) + 1).toNat = k + 1 by omega] at h3
    have hcon := is_is w x T F ((k : Int) + 1) true (decide_eq_true ⟨h1, h2⟩) h
    have HH := Lib.hid h
    obtain ⟨st, hst⟩ : ∃ st, T.st (k + 1) = st := ⟨_, rfl⟩
    rw [hst] at h3
    have hkn : (k : Int) < T.n := by omega
    have hk0 : (0 : Int) ≤ k := by omega
    have hsz : ¬ (st : Int) = 1 := by omega
    have hsb : ((st : Int) != 1) = true := by simpa using hsz
    have HW : Hid (wrap64 (k : Int) = k) := Lib.hid (wr0 (by unfold I64 at hp; omega))
    have HKT : Hid (k < T.n) := Lib.hid (by omega)
    have HST := Lib.hid hst
    clear h h1 h2 h3 h7 hp hy hy0 hst
    go_enter Tryz.func36, Tryz.ntmps36
    go_wp2_with fail
    refine (show Calls Tryz.prog _ _ _ _ from hcon).mono ?_
    rintro e w1 ⟨rfl, hb⟩
    obtain ⟨b9, c9, d0, d1, d2, d3, d4, d5, d6⟩ := (HH.out.below hb).at (j := k) HKT.out
    rw [HST.out] at d5
    have hw := HW.out
    have HB := Lib.hid hb
    clear hcon hb d4 d6 HH
    go_wp2_with fail
    go_ret
    exact ⟨rfl, HB.out⟩
  · obtain rfl : y = 5 := by omega
    have hcon := is_is w x T F p false (decide_eq_false h1) h
    clear h h1 h5 hp hy hy0
    go_enter Tryz.func36, Tryz.ntmps36
    go_wp2_with fail
    refine (show Calls Tryz.prog _ _ _ _ from hcon).mono ?_
    rintro e w1 ⟨rfl, hb⟩
    have HB := Lib.hid hb
    clear hcon hb
    go_wp2_with fail
    go_ret
    exact ⟨rfl, HB.out⟩

theorem abortR_is (w : World) (x : Nat) (T : Tb) (F : Nat → Prop) (hok : T.Ok) (hs : T.n ≤ 1000) (p : Int) (hp : I64 p) (h : IsR w x T F) :
    Calls Tryz.prog 36 #[.pointer (some ⟨x, 0, none⟩), .int .i64 p] w fun e w' => EndR w x F (T.aboT p) (.int .i64 (T.err p)) e w' := by
  unfold Tb.aboT
  by_cases he : T.err p = 0
  · obtain ⟨h1, h2, h3⟩ := Tb.err_ok he
    obtain ⟨k, rfl⟩ : ∃ k : Nat, p = (k : Int) + 1 := ⟨(p - 1).toNat, by omega⟩
    rw [he, if_pos rfl]
    rw [show ((k : Int) + 1).toNat = k + 1 by omega] at h3 ⊢
    exact abortR_ok w x T F hok hs k (by omega) h3 h
  · rw [if_neg he]
    refine (abortR_no w x T F p hp _ rfl he h).mono ?_
    rintro e w' ⟨rfl, hb⟩
    exact ⟨F, rfl, h.below hb, fun k hk => .inl hk, Touch.of_below hb⟩

set_option maxRecDepth 100000 in
set_option maxHeartbeats 2000000 in
theorem commitR_no (w : World) (x : Nat) (T : Tb) (F : Nat → Prop) (p : Int) (hp : I64 p) (y : Int) (hy : T.err p = y) (hy0 : y ≠ 0) (h : IsR w x T F) :
    Calls Tryz.prog 35 #[.pointer (some ⟨x, 0, none⟩), .int .i64 p] w fun e w' => e = .returned (.int .i64 y) ∧ Below w.heap.size w w' := by
  rcases T.err_cases p with ⟨h0, _⟩ | ⟨h7, h1, h2, h3⟩ | ⟨h5, h1⟩
  · omega
  · obtain rfl : y = 7 := by omega
    obtain ⟨k, rfl⟩ : ∃ k : Nat, p = (k : Int) + 1 := ⟨(p - 1).toNat, by omega⟩
    rw [show ((k : Int) + 1).toNat = k + 1 by omega] at h3
    have hcon := is_is w x T F ((k : Int) + 1) true (decide_eq_true ⟨h1, h2⟩) h
    have HH := Lib.hid h
    obtain ⟨st, hst⟩ : ∃ st, T.st (k + 1) = st := ⟨_, rfl⟩
    rw [hst] at h3
    have hkn : (k : Int) < T.n := by omega
    have hk0 : (0 : Int) ≤ k := by omega
    have hsz : ¬ (st : Int) = 1 := by omega
    have hsb : ((st : Int) != 1) = true := by simpa using hsz
    have HW : Hid (wrap64 (k : Int) = k) := Lib.hid (wr0 (by unfold I64 at hp; omega))
    have HKT : Hid (k < T.n) := Lib.hid (by omega)
    have HST := Lib.hid hst
    clear h h1 h2 h3 h7 hp hy hy0 hst
    go_enter Tryz.func35, Tryz.ntmps35
    go_wp2_with fail
    refine (show Calls Tryz.prog _ _ _ _ from hcon).mono ?_
    rintro e w1 ⟨rfl, hb⟩
    obtain ⟨b9, c9, d0, d1, d2, d3, d4, d5, d6⟩ := (HH.out.below hb).at (j := k) HKT.out
    rw [HST.out] at d5
    have hw := HW.out
    have HB := Lib.hid hb
    clear hcon hb d4 d6 HH
    go_wp2_with fail
    go_ret
    exact ⟨rfl, HB.out⟩
  · obtain rfl : y = 5 := by omega
    have hcon := is_is w x T F p false (decide_eq_false h1) h
    clear h h1 h5 hp hy hy0
    go_enter Tryz.func35, Tryz.ntmps35
    go_wp2_with fail
    refine (show Calls Tryz.prog _ _ _ _ from hcon).mono ?_
    rintro e w1 ⟨rfl, hb⟩
    have HB := Lib.hid hb
    clear hcon hb
    go_wp2_with fail
    go_ret
    exact ⟨rfl, HB.out⟩

theorem commitR_is (w : World) (x : Nat) (T : Tb) (F : Nat → Prop) (hok : T.Ok) (hs : T.n ≤ 1000) (hla : T.last ≤ 1000) (p : Int) (hp : I64 p) (h : IsR w x T F) :
    Calls Tryz.prog 35 #[.pointer (some ⟨x, 0, none⟩), .int .i64 p] w fun e w' => EndR w x F (T.comT p) (.int .i64 (T.err p)) e w' := by
  unfold Tb.comT
  by_cases he : T.err p = 0
  · obtain ⟨h1, h2, h3⟩ := Tb.err_ok he
    obtain ⟨k, rfl⟩ : ∃ k : Nat, p = (k : Int) + 1 := ⟨(p - 1).toNat, by omega⟩
    rw [he, if_pos rfl]
    rw [show ((k : Int) + 1).toNat = k + 1 by omega] at h3 ⊢
    exact commitR_ok w x T F hok hs hla k (by omega) h3 h
  · rw [if_neg he]
    refine (commitR_no w x T F p hp _ rfl he h).mono ?_
    rintro e w' ⟨rfl, hb⟩
    exact ⟨F, rfl, h.below hb, fun k hk => .inl hk, Touch.of_below hb⟩

end Go.Proofs.YtbgnbaogclnpgaaGreat
