/-
  The document's own table of transactions (stage 9): what only reads it.
-/
import Derived.Test.YtbgnbaogclnpgaaGreatNSnap
namespace Go.Proofs.YtbgnbaogclnpgaaGreat
open Go.RowKit
set_option linter.unusedVariables false

def recR (T : Tb) (j : Nat) : List Value := [.int .i64 (T.par (j + 1)), .int .u8 (T.st (j + 1)), .int .i64 (T.num (j + 1))]

/-- At block x lies the document's table T; it may be written into blocks of F. -/
structure IsR (W : World) (x : Nat) (T : Tb) (F : Nat → Prop) : Prop where
  pl : ∀ k, 1 ≤ k → k ≤ T.n → T.par k < k
  ft : F x
  lt : ∀ k, F k → k < W.heap.size
  ex : ∃ s, Lit W x 79 [s, .int .i64 T.last] ∧ RowF 120 3 W s T.n (recR T) ∧ ∀ k, s.ownBlock = some k → F k ∧ k ≠ x

section
variable {W W' : World} {x : Nat} {T : Tb} {F : Nat → Prop}
theorem IsR.stay (h : IsR W x T F) (hs : Stay F W W') : IsR W' x T F := by
  obtain ⟨s, h1, h2, h3⟩ := h.ex
  exact ⟨h.pl, h.ft, fun k hk => Nat.lt_of_lt_of_le (h.lt k hk) hs.size, s, h1.stay hs h.ft, h2.stay hs (fun k hk => (h3 k hk).1), h3⟩
theorem IsR.below (h : IsR W x T F) (hb : Below W.heap.size W W') : IsR W' x T F := h.stay (Stay.of_below hb)
theorem IsR.open (h : IsR W x T F) : ∃ a c, x < W.heap.size ∧ W.cell? ⟨x, 0, none⟩ = some (.slice a T.n c) ∧ W.cell? ⟨x, 1, none⟩ = some (.int .i64 T.last) ∧ T.n ≤ c ∧ c ≤ maxLen := by
  obtain ⟨s, h1, h2, h3⟩ := h.ex
  obtain ⟨a, c, rfl, hc, hm⟩ := h2.form
  exact ⟨a, c, h1.lt, h1.cell rfl, h1.cell rfl, hc, hm⟩
theorem IsR.at (h : IsR W x T F) {j : Nat} (hj : j < T.n) : ∃ b c, x < W.heap.size ∧ W.cell? ⟨x, 0, none⟩ = some (.slice (some ⟨b, 0, none⟩) T.n c) ∧ T.n ≤ c ∧ b < W.heap.size ∧ W.cell? ⟨b, j * 3, none⟩ = some (.int .i64 (T.par (j + 1))) ∧ W.cell? ⟨b, j * 3 + 1, none⟩ = some (.int .u8 (T.st (j + 1))) ∧ W.cell? ⟨b, j * 3 + 2, none⟩ = some (.int .i64 (T.num (j + 1))) := by
  obtain ⟨s, h1, h2, h3⟩ := h.ex
  obtain ⟨b, c, rfl, hc, hm, hb, hat, hf⟩ := h2.at hj
  exact ⟨b, c, h1.lt, h1.cell rfl, hc, hb, hat j hj 0 _ rfl, hat j hj 1 _ rfl, hat j hj 2 _ rfl⟩
end

set_option maxRecDepth 100000 in
theorem is_is (w : World) (x : Nat) (T : Tb) (F : Nat → Prop) (id : Int) (z : Bool) (hz : decide (1 ≤ id ∧ id ≤ T.n) = z) (h : IsR w x T F) : Calls Tryz.prog 72 #[.pointer (some ⟨x, 0, none⟩), .int .i64 id] w fun e w' => e = .returned (.bool z) ∧ Below w.heap.size w w' := by
  obtain ⟨a, c, hlt, h0, h1, hnc, hcm⟩ := h.open
  have hB := Below.refl w.heap.size w
  obtain ⟨n, hn⟩ : ∃ n, T.n = n := ⟨_, rfl⟩
  rw [hn] at h0 hz hnc
  have HZ := Lib.hid hz
  clear h hz hcm h1
  by_cases h2 : 1 ≤ id
  · obtain ⟨y, hy⟩ : ∃ y, decide (id ≤ (n : Int)) = y := ⟨_, rfl⟩
    have HY := Lib.hid hy
    clear hy
    go_enter Tryz.func72, Tryz.ntmps72
    go_wp2_with fail
    go_ret
    refine ⟨?_, hB⟩
    rw [← HZ.out]
    simp [h2]
  · have hz2 : decide (1 ≤ id ∧ id ≤ (n : Int)) = false := decide_eq_false (fun h => h2 h.1)
    rw [← HZ.out, hz2]
    clear HZ hz2
    go_enter Tryz.func72, Tryz.ntmps72
    go_wp2_with fail
    go_ret
    exact ⟨rfl, hB⟩

theorem lastR_is (w : World) (x : Nat) (T : Tb) (F : Nat → Prop) (h : IsR w x T F) : Calls Tryz.prog 82 #[.pointer (some ⟨x, 0, none⟩)] w fun e w' => e = .returned (.int .i64 T.last) ∧ Below w.heap.size w w' := by
  obtain ⟨a, c, hlt, h0, h1, hnc, hcm⟩ := h.open
  have hB := Below.refl w.heap.size w
  clear h
  go_enter Tryz.func82, Tryz.ntmps82
  go_wp2_with fail
  go_ret
  exact ⟨rfl, hB⟩

/-- It stands below a, and is not a by that. -/
def Bel (T : Tb) (a c : Nat) : Prop := 1 ≤ c ∧ c ≤ T.n ∧ T.par c ≠ 0 ∧ Und T.par a (T.par c)

set_option maxRecDepth 100000 in
set_option maxHeartbeats 2000000 in
theorem belR_is (w : World) (x : Nat) (T : Tb) (F : Nat → Prop) (hn : T.n ≤ 1000) (c a : Nat) (hc : c ≤ T.n) (ha : a ≤ T.n) (z : Bool) (hz : z = true ↔ Bel T a c) (h : IsR w x T F) :
    Calls Tryz.prog 73 #[.pointer (some ⟨x, 0, none⟩), .int .i64 c, .int .i64 a] w fun e w' => e = .returned (.bool z) ∧ Below w.heap.size w w' := by
  have HH := Lib.hid h
  have HZ := Lib.hid hz
  have HB := Lib.hid (Below.refl w.heap.size w)
  obtain ⟨n, hn9⟩ : ∃ n, T.n = n := ⟨_, rfl⟩
  have HN := Lib.hid hn9
  rw [hn9] at hn hc ha
  clear h hz hn9
  go_enter Tryz.func73, Tryz.ntmps73
  go_wp2_with fail
  go_loopg [1] c (fun gg s wr => ∃ (d : Nat), s = .int .i64 d ∧ d ≤ n ∧ d ≤ gg ∧ Hid (z = true ↔ Bel T a d) ∧ Hid (Below w.heap.size w wr))
  case atStart => exact ⟨c, rfl, hc, Nat.le_refl _, HZ, HB⟩
  case round =>
    obtain ⟨d, rfl, hdn, hdg, HZ2, HB2⟩ := hrel
    clear HZ HB
    have hI := HH.out.below HB2.out
    by_cases hd : d = 0
    · subst hd
      have hcon := is_is wr x T F ((0 : Nat) : Int) false (decide_eq_false (by omega)) hI
      have HF : Hid (z = false) := Lib.hid (by
        cases z with
        | false => rfl
        | true => have := HZ2.out.1 rfl; exact absurd this.1 (by omega))
      clear hI
      go_wp2_with fail
      refine (show Calls Tryz.prog _ _ _ _ from hcon).mono ?_
      rintro e w1 ⟨rfl, hb⟩
      have HB3 := Lib.hid (below_tr HB2.out hb)
      clear hcon hb
      go_wp2_with fail
      go_ret
      exact ⟨by rw [HF.out]; rfl, HB3.out⟩
    · obtain ⟨k, rfl⟩ : ∃ k, d = k + 1 := ⟨d - 1, by omega⟩
      have hcon := is_is wr x T F ((k + 1 : Nat) : Int) true (decide_eq_true (by rw [HN.out]; omega)) hI
      obtain ⟨p, hp⟩ : ∃ p, T.par (k + 1) = p := ⟨_, rfl⟩
      have hpl := HH.out.pl (k + 1) (by omega) (by rw [HN.out]; omega)
      rw [hp] at hpl
      have hcast : ((k + 1 : Nat) : Int) = (k : Int) + 1 := by omega
      have hkn : (k : Int) < n := by omega
      have hk0 : (0 : Int) ≤ k := by omega
      have HP := Lib.hid hp
      have HW : Hid (wrap64 (k : Int) = k) := Lib.hid (wr0 (by omega))
      rw [hcast] at hcon ⊢
      clear hI hp hcast
      go_wp2_with fail
      refine (show Calls Tryz.prog _ _ _ _ from hcon).mono ?_
      rintro e w1 ⟨rfl, hb⟩
      have HB3 := Lib.hid (below_tr HB2.out hb)
      obtain ⟨b, cc, d0, d1, d2, d3, d4, d5, d6⟩ := (HH.out.below HB3.out).at (j := k) (by rw [HN.out]; omega)
      rw [HP.out] at d4
      rw [HN.out] at d1 d2
      by_cases hpa : p = a
      · by_cases hp0 : p = 0
        · subst hp0
          have hnb : ¬ Bel T a (k + 1) := fun h => h.2.2.1 HP.out
          have HZ3 : Hid (z = true ↔ Bel T a 0) := Lib.hid ⟨fun h => absurd (HZ2.out.1 h) hnb, fun h => absurd h.1 (by omega)⟩
          subst hpa
          have hw := HW.out
          clear hcon hb HB2 hnb
          go_wp2_with fail
          clear hw
          go_roundg 0
          case measure => omega
          case rel => exact ⟨0, rfl, by omega, Nat.le_refl _, HZ3, HB3⟩
        · have HT : Hid (z = true) := Lib.hid (HZ2.out.2 ⟨by omega, by rw [HN.out]; omega, by rw [HP.out]; exact hp0, by rw [HP.out, hpa]; exact .self⟩)
          subst hpa
          have hpz : ¬ (p : Int) = 0 := by omega
          have hw := HW.out
          clear hcon hb HB2
          go_wp2_with fail
          go_ret
          exact ⟨by rw [HT.out]; rfl, HB3.out⟩
      · have HZ3 : Hid (z = true ↔ Bel T a p) := Lib.hid (HZ2.out.trans ⟨fun h => by
            obtain ⟨_, h2, h3, h4⟩ := h
            rw [HP.out] at h3 h4
            rcases h4.cases' with e | ⟨h5, h6⟩
            · exact absurd e hpa
            · exact ⟨by omega, by omega, h5, h6⟩, fun h => ⟨by omega, by rw [HN.out]; omega, by rw [HP.out]; have := h.1; omega, by rw [HP.out]; exact .up h.2.2.1 h.2.2.2⟩⟩)
        have hpaz : ¬ (p : Int) = (a : Int) := by omega
        have hw := HW.out
        have HPL := Lib.hid hpl
        clear hcon hb HB2 hpl
        go_wp2_with fail
        clear hw
        go_roundg p
        case measure => have := HPL.out; omega
        case rel => exact ⟨p, rfl, by have := HPL.out; omega, Nat.le_refl _, HZ3, HB3⟩

/-- What stands below one that is Gone is Gone. -/
theorem und_st {T : Tb} (hok : T.Ok) {a : Nat} : ∀ k, Und T.par a k → k ≤ T.n → 1 ≤ k → T.st a ≤ T.st k := by
  intro k hu
  induction hu with
  | self => intro _ _; exact Nat.le_refl _
  | @up k h0 _ ih =>
    intro hk h1
    have := hok.par_lt k h1 hk
    exact Nat.le_trans (ih (by omega) (by omega)) (hok.mono k h1 hk h0)

set_option maxRecDepth 100000 in
set_option maxHeartbeats 2000000 in
theorem topR_is (w : World) (x : Nat) (T : Tb) (F : Nat → Prop) (hn : T.n ≤ 1000) (id : Int) (hi : I64 id) (hok : T.Ok) (h : IsR w x T F) : Calls Tryz.prog 53 #[.pointer (some ⟨x, 0, none⟩), .int .i64 id] w fun e w' => e = .returned (.int .i64 (T.g T.top id)) ∧ Below w.heap.size w w' := by
  by_cases hin : 1 ≤ id ∧ id ≤ T.n
  · have hz := is_is w x T F id true (decide_eq_true hin) h
    have HH := Lib.hid h
    obtain ⟨k, rfl⟩ : ∃ k : Nat, id = (k : Int) + 1 := ⟨(id - 1).toNat, by omega⟩
    obtain ⟨n, hn9⟩ : ∃ n, T.n = n := ⟨_, rfl⟩
    have HN := Lib.hid hn9
    have hg : T.g T.top ((k : Int) + 1) = (T.top (k + 1) : Int) := by rw [Tb.g_in hin, show ((k : Int) + 1).toNat = k + 1 by omega]
    rw [hg]
    have hkn0 : k < n := by omega
    clear h hg hin hi
    go_enter Tryz.func53, Tryz.ntmps53
    go_wp2_with fail
    refine (show Calls Tryz.prog _ _ _ _ from hz).mono ?_
    rintro e w1 ⟨rfl, hb⟩
    have HB1 := Lib.hid hb
    clear hz hb
    go_wp2_with fail
    go_loopg [1] n (fun gg s wr => ∃ (d : Nat), s = .int .i64 ((d : Int) + 1) ∧ d < n ∧ d ≤ gg ∧ Hid (T.top (d + 1) = T.top (k + 1)) ∧ wr = w1)
    case atStart => exact ⟨k, rfl, hkn0, by omega, Lib.hid rfl, rfl⟩
    case round =>
      obtain ⟨d, rfl, hdn, hdg, HT, rfl⟩ := hrel
      obtain ⟨b, c, d0, d1, d2, d3, d4, d5, d6⟩ := (HH.out.below HB1.out).at (j := d) (by rw [HN.out]; omega)
      rw [HN.out] at d1 d2
      obtain ⟨p, hp⟩ : ∃ p, T.par (d + 1) = p := ⟨_, rfl⟩
      rw [hp] at d4
      have HPL : Hid (p < d + 1) := Lib.hid (by rw [← hp]; exact HH.out.pl (d + 1) (by omega) (by rw [HN.out]; omega))
      have hkn : (d : Int) < n := by omega
      have hk0 : (0 : Int) ≤ d := by omega
      have HW : Hid (wrap64 (d : Int) = d) := Lib.hid (wr0 (by omega))
      by_cases hp0 : p = 0
      · have HT2 : Hid (T.top (k + 1) = d + 1) := Lib.hid (by rw [← HT.out]; exact hok.top0 (d + 1) (by omega) (by rw [HN.out]; omega) (by rw [hp, hp0]))
        subst hp0
        have hw := HW.out
        clear hp d5 d6
        go_wp2_with fail
        go_ret
        exact ⟨by rw [HT2.out]; rfl, HB1.out⟩
      · obtain ⟨q, rfl⟩ : ∃ q, p = q + 1 := ⟨p - 1, by omega⟩
        have HT2 : Hid (T.top (q + 1) = T.top (k + 1)) := Lib.hid (by rw [← HT.out, ← hp]; exact (hok.top1 (d + 1) (by omega) (by rw [HN.out]; omega) (by rw [hp]; omega)).symm)
        have hcast : ((q + 1 : Nat) : Int) = (q : Int) + 1 := by omega
        rw [hcast] at d4
        have hpz : ¬ (q : Int) + 1 = 0 := by omega
        have hw := HW.out
        clear hp d5 d6 hcast hp0
        go_wp2_with fail
        clear hw
        go_roundg q
        case measure => have := HPL.out; omega
        case rel => exact ⟨q, rfl, by have := HPL.out; omega, Nat.le_refl _, HT2, rfl⟩
  · have hz := is_is w x T F id false (decide_eq_false hin) h
    rw [Tb.g_out hin]
    clear h hin
    go_enter Tryz.func53, Tryz.ntmps53
    go_wp2_with fail
    refine (show Calls Tryz.prog _ _ _ _ from hz).mono ?_
    rintro e w1 ⟨rfl, hb⟩
    have HB := Lib.hid hb
    clear hz hb
    go_wp2_with fail
    go_ret
    exact ⟨rfl, HB.out⟩

open Classical in
theorem bel_bool (T : Tb) (a c : Nat) : ∃ z : Bool, z = true ↔ Bel T a c := ⟨decide (Bel T a c), decide_eq_true_iff⟩

set_option maxRecDepth 100000 in
set_option maxHeartbeats 4000000 in
theorem countsR_is (w : World) (x : Nat) (T : Tb) (F : Nat → Prop) (hn : T.n ≤ 1000) (id : Int) (hi : I64 id) (hok : T.Ok) (h : IsR w x T F) (z : Bool) (hz : T.cnt id = z) : Calls Tryz.prog 51 #[.pointer (some ⟨x, 0, none⟩), .int .i64 id] w fun e w' => e = .returned (.bool z) ∧ Below w.heap.size w w' := by
  by_cases hin : 1 ≤ id ∧ id ≤ T.n
  · have hcon := is_is w x T F id true (decide_eq_true hin) h
    have HH := Lib.hid h
    obtain ⟨m, hm⟩ : ∃ m : Nat, id = (m : Int) := ⟨id.toNat, by omega⟩
    subst hm
    obtain ⟨n, hn9⟩ : ∃ n, T.n = n := ⟨_, rfl⟩
    have HN := Lib.hid hn9
    have HN1000 : Hid (n ≤ 1000) := Lib.hid (by omega)
    have hst := hok.st1 m (by omega) (by omega)
    have HZ : Hid (z = decide (T.st m ≠ 3)) := Lib.hid (by
      rw [← hz]
      unfold Tb.cnt
      rw [Tb.g_in hin, Int.toNat_natCast]
      have : T.st m = 1 ∨ T.st m = 2 ∨ T.st m = 3 := by omega
      rcases this with e | e | e <;> rw [e] <;> rfl)
    have hmn : 1 ≤ m ∧ m ≤ n := by omega
    clear h hin hi hz hst hn9
    go_enter Tryz.func51, Tryz.ntmps51
    go_wp2_with fail
    refine (show Calls Tryz.prog _ _ _ _ from hcon).mono ?_
    rintro e w1 ⟨rfl, hb⟩
    have HB1 := Lib.hid hb
    clear hcon hb
    go_wp2_with fail
    go_loopg [5] n (fun gg s wr => ∃ (j : Nat), s = .int .i64 ((j : Int) + 1) ∧ j ≤ n ∧ n - j ≤ gg ∧ Hid (m ≤ j → T.st m ≠ 3) ∧ Hid (Below w.heap.size w wr))
    case atStart => exact ⟨0, by simp, Nat.zero_le _, by omega, Lib.hid (fun h => by omega), HB1⟩
    case round =>
      obtain ⟨j, rfl, hjn, hjg, HJ, HB2⟩ := hrel
      clear HB1
      have hI := HH.out.below HB2.out
      obtain ⟨a, c, o0, o1, o2, o3, o4⟩ := hI.open
      rw [HN.out] at o1
      clear o2 o3 o4
      by_cases hlt : j < n
      · have hltz : (j : Int) + 1 ≤ (n : Int) := by omega
        obtain ⟨k, hk⟩ : ∃ k, j + 1 = k := ⟨_, rfl⟩
        have hkz : (j : Int) + 1 = (k : Int) := by omega
        obtain ⟨b9, c9, d0, d1, d2, d3, d4, d5, d6⟩ := hI.at (j := j) (by rw [HN.out]; omega)
        rw [HN.out] at d1 d2
        rw [hk] at d5
        obtain ⟨y, hy⟩ : ∃ y, T.st k = y := ⟨_, rfl⟩
        rw [hy] at d5
        obtain ⟨z2, hz2⟩ := bel_bool T k m
        have hcb := belR_is wr x T F hn m k (by have := HN.out; omega) (by have := HN.out; omega) z2 hz2 hI
        rw [← hkz] at hcb
        have HST : Hid (T.st k = 3 → (m = k ∨ z2 = true) → T.st m = 3) := Lib.hid (fun h3 h => by
          have hs := hok.st1 m (by omega) (by rw [HN.out]; omega)
          rcases h with h | h
          · rw [h]; exact h3
          · have h4 := (hz2.1 h).2.2
            have := und_st hok m (.up h4.1 h4.2) (by rw [HN.out]; omega) (by omega)
            omega)
        have HW : Hid (wrap64 (j : Int) = j) := Lib.hid (wr0 (by have := HN.out; omega))
        have hjn0 : (j : Int) < n := by omega
        have hj0 : (0 : Int) ≤ j := by omega
        by_cases hmk : m = k
        · obtain rfl : m = j + 1 := by omega
          have hcast : ((j + 1 : Nat) : Int) = (j : Int) + 1 := by omega
          rw [hcast]
          by_cases hy3 : y = 3
          · subst hy3
            have h3 : T.st (j + 1) = 3 := HST.out hy (.inl hmk)
            clear hcb hz2 hy hI d4 d6 hk hkz HST HJ hcast o0 o1
            have HZ3 : Hid (z = false) := Lib.hid (by rw [HZ.out, h3]; rfl)
            have hw := HW.out
            clear h3
            go_wp2_with fail
            go_ret
            exact ⟨by rw [HZ3.out]; rfl, HB2.out⟩
          · have HJ2 : Hid (j + 1 ≤ j + 1 → T.st (j + 1) ≠ 3) := Lib.hid (fun _ => by rw [hmk, hy]; exact hy3)
            have hy3z : ¬ (y : Int) = 3 := by omega
            have hy3b : ((y : Int) == 3) = false := by simpa using hy3z
            have hw := HW.out
            clear hcb hz2 hy hI d4 d6 hk hkz HST HJ hmk hy3 hcast o0 o1
            go_wp2_with fail
            clear hw
            go_roundg (n - (j + 1))
            case measure => omega
            case rel => exact ⟨j + 1, by have hn1000 := HN1000.out; rw [show wrap64 ((j : Int) + 1 + 1) = (j : Int) + 1 + 1 from wr0 (by omega)]; exact congrArg (Value.int .i64) (by omega), by omega, Nat.le_refl _, HJ2, HB2⟩
        · have hmkz : ¬ (j : Int) + 1 = (m : Int) := by omega
          have hmkb : ((j : Int) + 1 == (m : Int)) = false := by simpa using hmkz
          have HJ3 : Hid (m ≤ j + 1 → T.st m ≠ 3) := Lib.hid (fun h => HJ.out (by omega))
          have HJ2 := HJ3
          have HI := Lib.hid hI
          have HGY := Lib.hid hy
          have HGK := Lib.hid hk
          clear hz2 hI d4 d6 hk hkz HJ hy HJ3
          have hcon := hcb
          clear hcb
          clear d0 d1 d2 d3 d5
          go_wp2_with fail
          refine (show Calls Tryz.prog _ _ _ _ from hcon).mono ?_
          rintro e w5 ⟨rfl, hb⟩
          have HB5 := Lib.hid (below_tr HB2.out hb)
          obtain ⟨b9, c9, d0, d1, d2, d3, d4, d5, d6⟩ := (HI.out.below hb).at (j := j) (by rw [HN.out]; omega)
          rw [HN.out] at d1 d2
          rw [HGK.out, HGY.out] at d5
          clear hcon hb HI d4 d6 o0 o1 HB2
          cases z2 with
          | false =>
            have hw := HW.out
            clear hmk
            go_wp2_with fail
            clear hw
            go_roundg (n - (j + 1))
            case measure => omega
            case rel => exact ⟨j + 1, by have hn1000 := HN1000.out; rw [show wrap64 ((j : Int) + 1 + 1) = (j : Int) + 1 + 1 from wr0 (by omega)]; exact congrArg (Value.int .i64) (by omega), by omega, Nat.le_refl _, HJ2, HB5⟩
          | true =>
            by_cases hy3 : y = 3
            · subst hy3
              have h3 : T.st m = 3 := HST.out HGY.out (.inr rfl)
              clear hmk HJ2
              have HZ3 : Hid (z = false) := Lib.hid (by rw [HZ.out, h3]; rfl)
              have hw := HW.out
              clear h3
              go_wp2_with fail
              go_ret
              exact ⟨by rw [HZ3.out]; rfl, HB5.out⟩
            · have hy3z : ¬ (y : Int) = 3 := by omega
              have hy3b : ((y : Int) == 3) = false := by simpa using hy3z
              have hw := HW.out
              clear hmk hy3
              go_wp2_with fail
              clear hw
              go_roundg (n - (j + 1))
              case measure => omega
              case rel => exact ⟨j + 1, by have hn1000 := HN1000.out; rw [show wrap64 ((j : Int) + 1 + 1) = (j : Int) + 1 + 1 from wr0 (by omega)]; exact congrArg (Value.int .i64) (by omega), by omega, Nat.le_refl _, HJ2, HB5⟩
      · have hltz : ¬ (j : Int) + 1 ≤ (n : Int) := by omega
        have HZ2 : Hid (z = true) := Lib.hid (by rw [HZ.out]; exact decide_eq_true (HJ.out (by omega)))
        clear hI
        go_wp2_with fail
        go_ret
        exact ⟨by rw [HZ2.out]; rfl, HB2.out⟩
  · have hcon := is_is w x T F id false (decide_eq_false hin) h
    have hc : z = false := by rw [← hz]; unfold Tb.cnt; rw [Tb.g_out hin]; rfl
    subst hc
    clear h hin hz
    go_enter Tryz.func51, Tryz.ntmps51
    go_wp2_with fail
    refine (show Calls Tryz.prog _ _ _ _ from hcon).mono ?_
    rintro e w1 ⟨rfl, hb⟩
    have HB := Lib.hid hb
    clear hcon hb
    go_wp2_with fail
    go_ret
    exact ⟨rfl, HB.out⟩

end Go.Proofs.YtbgnbaogclnpgaaGreat
