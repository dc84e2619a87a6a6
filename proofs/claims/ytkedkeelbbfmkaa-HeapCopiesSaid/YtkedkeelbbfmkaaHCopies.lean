/-
  The law HeapCopies, walked.
-/
import Derived.Test.YtkedkeelbbfmkaaHTold
import Derived.Test.YtkedkeelbbfmkaaHLarge
namespace Go.Proofs.Ytkedkeelbbfmkaa
open Go.RowKit
set_option linter.unusedVariables false

def runA (A : Ab) (l : List Stp) : Ab := l.foldl Ab.doA A
theorem runA_take {A : Ab} {l : List Stp} {i : Nat} {s : Stp} (h : l[i]? = some s) : runA A (l.take (i + 1)) = (runA A (l.take i)).doA s := by
  unfold runA
  rw [List.take_add_one, h, List.foldl_append]
  rfl

/-- Two heaps, apart from one another and from the blocks X. -/
def Tw (X : Nat → Prop) (w W : World) (h : Nat) (A : Ab) (z c : Nat) (B : Ab) (y : Nat) : Prop :=
  ∃ F G, Std W h A z F ∧ Std W c B y G ∧ (∀ k, F k → w.heap.size ≤ k ∧ ¬ G k) ∧ (∀ k, G k → w.heap.size ≤ k) ∧ Below w.heap.size w W ∧ ∀ k, X k → ¬ F k ∧ ¬ G k ∧ k < W.heap.size

section
variable {X : Nat → Prop} {w W W' : World} {h z c y : Nat} {A B : Ab}
theorem Tw.bel (H : Tw X w W h A z c B y) : Below w.heap.size w W := by obtain ⟨F, G, h1, h2, h3, h4, h5, h6⟩ := H; exact h5
theorem Tw.swap (H : Tw X w W h A z c B y) : Tw X w W c B y h A z := by
  obtain ⟨F, G, h1, h2, h3, h4, h5, h6⟩ := H
  exact ⟨G, F, h2, h1, fun k hk => ⟨h4 k hk, fun hf => (h3 k hf).2 hk⟩, fun k hk => (h3 k hk).1, h5, fun k hk => ⟨(h6 k hk).2.1, (h6 k hk).1, (h6 k hk).2.2⟩⟩
theorem Tw.below (H : Tw X w W h A z c B y) (hb : Below W.heap.size W W') : Tw X w W' h A z c B y := by
  obtain ⟨F, G, h1, h2, h3, h4, h5, h6⟩ := H
  exact ⟨F, G, h1.below hb, h2.below hb, h3, h4, below_tr h5 hb, fun k hk => ⟨(h6 k hk).1, (h6 k hk).2.1, Nat.lt_of_lt_of_le (h6 k hk).2.2 hb.size⟩⟩
/-- What is newer than both may be minded, too. -/
theorem Tw.mind {Y : Nat → Prop} (H : Tw X w W h A z c B y) (hb : Below W.heap.size W W') (hY : ∀ k, Y k → (X k ∨ W.heap.size ≤ k) ∧ k < W'.heap.size) : Tw Y w W' h A z c B y := by
  obtain ⟨F, G, h1, h2, h3, h4, h5, h6⟩ := H
  refine ⟨F, G, h1.below hb, h2.below hb, h3, h4, below_tr h5 hb, fun k hk => ⟨fun hf => ?_, fun hf => ?_, (hY k hk).2⟩⟩
  · rcases (hY k hk).1 with e | e
    · exact (h6 k e).1 hf
    · have := h1.lt k hf; omega
  · rcases (hY k hk).1 with e | e
    · exact (h6 k e).2.1 hf
    · have := h2.lt k hf; omega
theorem tw_do (H : Tw X w W h A z c B y) (s : Stp) (ra : Option Addr) (rc n : Nat) (hn : s.t.row.length = n) (hl : n ≤ 1000000) (hw : s.wf) (hr : SlL W ra rc s.t.row) (hz : z ≤ 80000) :
    Calls Try.prog 28 #[stpV s (.slice ra n rc), .pointer (some ⟨h, 0, none⟩)] W fun e w' => e = .returned (.tuple #[.int .i64 (A.doV s), .int .i64 (A.doE s)]) ∧ Tw X w w' h (A.doA s) (z + 3) c B y ∧ Stay X W w' := by
  obtain ⟨F, G, h1, h2, h3, h4, h5, h6⟩ := H
  refine (do_std W h A z F s ra rc n hn hl hw hr hz h1).mono ?_
  rintro e w' ⟨rfl, F', q1, q2, q3⟩
  refine ⟨rfl, ⟨F', G, q1, h2.apart q3 (fun k hk hf => (h3 k hf).2 hk), fun k hk => ⟨?_, fun hg => ?_⟩, h4, h5.trans (q3.below (fun k hk => (h3 k hk).1) h5.size), fun k hk => ⟨fun hf => ?_, (h6 k hk).2.1, Nat.lt_of_lt_of_le (h6 k hk).2.2 q3.size⟩⟩, q3.stay (fun k hk => (h6 k hk).1)⟩
  · rcases q2.new k hk with e | e
    · exact (h3 k e).1
    · exact Nat.le_trans h5.size e
  · rcases q2.new k hk with e | e
    · exact (h3 k e).2 hg
    · have := h2.lt k hg; omega
  · rcases q2.new k hf with e | e
    · exact (h6 k hk).1 e
    · have := (h6 k hk).2.2; omega
theorem tw_told (H : Tw X w W h A z c B y) (hz : z ≤ 25000) :
    Calls Try.prog 37 #[.pointer (some ⟨h, 0, none⟩)] W fun e w' => ∃ s, e = .returned s ∧ ∃ R, Tl W w' R s A.tellL := by
  obtain ⟨F, G, h1, h2, h3, h4, h5, h6⟩ := H
  exact told_is W h A z F hz h1
theorem Tw.copy (H : One (fun _ => False) w W h A z) (hz : z ≤ 30000) :
    Calls Try.prog 21 #[.pointer (some ⟨h, 0, none⟩)] W fun e w' => ∃ c, e = .returned (.pointer (some ⟨c, 0, none⟩)) ∧ Tw (fun _ => False) w w' h A z c A z := by
  obtain ⟨F, h1, h2, h3, h4⟩ := H
  refine (copy_std W h A z F hz h1).mono ?_
  rintro e w' ⟨c, rfl, G, q1, q2, q3⟩
  exact ⟨c, rfl, F, G, h1.below q3, q1, fun k hk => ⟨h2 k hk, fun hg => by have := q2 k hg; have := h1.lt k hk; omega⟩, fun k hk => Nat.le_trans h3.size (q2 k hk), below_tr h3 q3, fun k hk => hk.elim⟩
/-- The blocks of a told list. -/
def BlkR (R : Nat → Prop) (s : Value) (k : Nat) : Prop := s.ownBlock = some k ∨ R k
theorem Tw.minds {R : Nat → Prop} {s : Value} {l : List Plc} (H : Tw X w W h A z c B y) (ht : Tl W W' R s l) : Tw (fun k => X k ∨ BlkR R s k) w W' h A z c B y :=
  H.mind ht.bel fun k hk => by
    obtain ⟨F, G, h1, h2, h3, h4, h5, h6⟩ := H
    rcases hk with e | e | e
    · exact ⟨.inl e, Nat.lt_of_lt_of_le (h6 k e).2.2 ht.bel.size⟩
    · exact ⟨.inr (ht.own k e), ht.row.lt k e⟩
    · exact ⟨.inr (ht.lt k e).1, (ht.lt k e).2⟩
end
theorem RowP.kept {X R : Nat → Prop} {W W' : World} {s : Value} {l : List Plc} (h : RowP R W s l) (hs : Stay X W W') (hX : ∀ k, BlkR R s k → X k) : RowP R W' s l := h.stay hs (fun k hk => hX k (.inl hk)) (fun k hk => hX k (.inr hk))

set_option maxRecDepth 100000 in
set_option maxHeartbeats 8000000 in
theorem copies_law (a0 : Option Addr) (c0 n0 : Nat) (l0 : List Stp) (a1 : Option Addr) (c1 n1 : Nat) (l1 : List Stp) (hn0 : l0.length = n0) (hn1 : l1.length = n1) (w : World) (hs0 : SlSt w a0 c0 l0) (hs1 : SlSt w a1 c1 l1) :
    Calls Try.prog 9 #[.slice a0 n0 c0, .slice a1 n1 c1] w fun e w' => e = .returned (.bool true) ∧ Below w.heap.size w w' := by
  have HS := Lib.hid hs0
  have HN := Lib.hid hn0
  have HSb := Lib.hid hs1
  have HNb := Lib.hid hn1
  clear hs0 hn0 hs1 hn1
  go_enter Try.func9, Try.ntmps9
  have hcon := works_is w
  go_wp2_with fail
  refine (show Calls Try.prog _ _ _ _ from hcon).mono ?_
  rintro e w1 ⟨rfl, hb⟩
  have HB1 := Lib.hid hb
  clear hcon hb
  have hcon := large_is w1 a0 c0 n0 l0 HN.out (HS.out.below HB1.out)
  go_wp2_with fail
  refine (show Calls Try.prog _ _ _ _ from hcon).mono ?_
  rintro e w1b ⟨v, rfl, hv, rfl⟩
  clear hcon 
  rcases hv with rfl | ⟨rfl, hf⟩
  · have hcon := works_is w1b
    go_wp2_with fail
    refine (show Calls Try.prog _ _ _ _ from hcon).mono ?_
    rintro e w2 ⟨rfl, hb⟩
    have HB2 := Lib.hid (below_tr HB1.out hb)
    clear hcon hb
    go_wp2_with fail
    go_ret
    exact ⟨rfl, HB2.out⟩
  · have HF := Lib.hid hf
    clear hf
    have hcon := large_is w1b a1 c1 n1 l1 HNb.out (HSb.out.below HB1.out)
    go_wp2_with fail
    refine (show Calls Try.prog _ _ _ _ from hcon).mono ?_
    rintro e w1c ⟨v, rfl, hv, rfl⟩
    clear hcon 
    rcases hv with rfl | ⟨rfl, hfb⟩
    · have hcon := works_is w1c
      go_wp2_with fail
      refine (show Calls Try.prog _ _ _ _ from hcon).mono ?_
      rintro e w2 ⟨rfl, hb⟩
      have HB2 := Lib.hid (below_tr HB1.out hb)
      clear hcon hb
      go_wp2_with fail
      go_ret
      exact ⟨rfl, HB2.out⟩
    · have HFb := Lib.hid hfb
      clear hfb
      have hcon := one_new (X := fun _ => False) (w0 := w) HB1.out (fun _ h => h.elim)
      go_wp2_with fail
      refine (show Calls Try.prog _ _ _ _ from hcon).mono ?_
      rintro e w2 ⟨h, rfl, ho⟩
      have HO0 := Lib.hid ho
      clear hcon ho HB1
      have h120 : n0 ≤ 120 := by have e1 := HF.out.1; have e2 := HN.out; omega
      have h121 : n1 ≤ 120 := by have e1 := HFb.out.1; have e2 := HNb.out; omega
      go_wp2_with fail
      go_loopg [6] n0 (fun gg s6 wr => ∃ (A : Ab) (z i : Nat), s6 = .int .i64 i ∧ i ≤ n0 ∧ n0 - i ≤ gg ∧ Hid (z ≤ 3 * i) ∧ Hid (One (fun _ => False) w wr h A z))
      case atStart => exact ⟨Ab.new, 0, 0, rfl, Nat.zero_le _, by omega, Lib.hid (Nat.le_refl _), HO0⟩
      case round =>
        obtain ⟨A, z, i, rfl, hin, hgg, HI, HO⟩ := hrel
        clear HO0
        by_cases hlt : i < n0
        · have hltz : (i : Int) < (n0 : Int) := by omega
          have HL := Lib.hid (And.intro hlt (And.intro hin hgg))
          have HZ : Hid (z ≤ 400) := Lib.hid (by have e1 := HI.out; omega)
          clear hgg hin
          obtain ⟨st, sb, so, ra, rc, rn, hst, hmem, hrn, rfl, hrw, hwf, hbl, q0, q1, q2, q3, q4, q5, q6, q7, q8, q9, q10⟩ := step_at HS.out HO.out.bel HN.out hlt
          have HST := Lib.hid (And.intro hst (And.intro hrn (And.intro hwf (HF.out.2 st hmem))))
          have hcon := one_do HO.out st ra rc rn hrn (by have := HF.out.2 st hmem; omega) hwf hrw (by have := HZ.out; omega)
          unfold stpV at hcon
          clear hst hmem hrn hwf hrw
          obtain ⟨A', hA'⟩ : ∃ A', A.doA st = A' := ⟨_, rfl⟩
          rw [hA'] at hcon
          clear hA'
          go_wp2_with fail
          refine (show Calls Try.prog _ _ _ _ from hcon).mono ?_
          rintro e w4 ⟨rfl, ho, -⟩
          have HO2 := Lib.hid ho
          clear hcon ho hbl q0 q1 q2 q3 q4 q5 q6 q7 q8 q9 q10 hlt HO
          go_wp2_with fail
          go_roundg (n0 - (i + 1))
          case measure => have := HL.out; omega
          case rel => exact ⟨A', z + 3, i + 1, by go_num, by have := HL.out; omega, Nat.le_refl _, Lib.hid (by have := HI.out; omega), HO2⟩
        · have hltz : ¬ (i : Int) < (n0 : Int) := by omega
          have HZ : Hid (z ≤ 400) := Lib.hid (by have e1 := HI.out; omega)
          clear HI hgg hin hlt
          have hcon := Tw.copy HO.out (by have := HZ.out; omega)
          go_wp2_with fail
          refine (show Calls Try.prog _ _ _ _ from hcon).mono ?_
          rintro e w5 ⟨c, rfl, htw⟩
          have HTW0 := Lib.hid htw
          clear hcon htw HO
          have hcon := tw_told HTW0.out (by have := HZ.out; omega)
          go_wp2_with fail
          refine (show Calls Try.prog _ _ _ _ from hcon).mono ?_
          rintro e w6 ⟨sw, rfl, Rw, htl⟩
          obtain ⟨aw, cw, rfl, -, -⟩ := htl.row.form
          obtain ⟨mw, hmw⟩ : ∃ m, A.tellL.length = m := ⟨_, rfl⟩
          rw [hmw] at htl ⊢
          have HMw := Lib.hid hmw
          have HRWw := Lib.hid htl.row
          clear hcon 
          have HTW1 := Lib.hid (HTW0.out.minds htl)
          clear htl hmw HTW0
          go_wp2_with fail
          go_loopg [9] n1 (fun gg s9 wq => ∃ i : Nat, s9 = .int .i64 i ∧ i ≤ n1 ∧ n1 - i ≤ gg ∧ Hid (Tw (fun k => False ∨ BlkR Rw (.slice aw mw cw) k) w wq h A z c (runA A (l1.take i)) (z + 3 * i)) ∧ Hid (RowP Rw wq (.slice aw mw cw) A.tellL))
          case atStart => exact ⟨0, rfl, Nat.zero_le _, by omega, HTW1, HRWw⟩
          case round =>
            obtain ⟨i, rfl, hin, hgg, HTW, HRW⟩ := hrel
            clear HTW1 HRWw
            by_cases hlt : i < n1
            · have hltz : (i : Int) < (n1 : Int) := by omega
              have HL := Lib.hid (And.intro hlt (And.intro hin hgg))
              clear hgg hin
              obtain ⟨st, sb, so, ra, rc, rn, hst, hmem, hrn, rfl, hrw, hwf, hbl, q0, q1, q2, q3, q4, q5, q6, q7, q8, q9, q10⟩ := step_at HSb.out HTW.out.bel HNb.out hlt
              have HST := Lib.hid (And.intro hst (And.intro hrn (And.intro hwf (HFb.out.2 st hmem))))
              have hcon := tw_do HTW.out.swap st ra rc rn hrn (by have := HFb.out.2 st hmem; omega) hwf hrw (by have := HZ.out; omega)
              unfold stpV at hcon
              clear hst hmem hrn hwf hrw
              go_wp2_with fail
              refine (show Calls Try.prog _ _ _ _ from hcon).mono ?_
              rintro e w7 ⟨rfl, ho, hs7⟩
              have HTW2 : Hid (Tw (fun k => False ∨ BlkR Rw (.slice aw mw cw) k) w w7 h A z c (runA A (l1.take (i + 1))) (z + 3 * (i + 1))) := Lib.hid (by rw [runA_take HST.out.1]; exact ho.swap)
              have HRW2 := Lib.hid (HRW.out.kept hs7 (fun k hk => .inr hk))
              clear hcon ho hs7 hbl q0 q1 q2 q3 q4 q5 q6 q7 q8 q9 q10 hlt HTW HRW
              go_wp2_with fail
              go_roundg (n1 - (i + 1))
              case measure => have := HL.out; omega
              case rel => exact ⟨i + 1, by go_num, by have := HL.out; omega, Nat.le_refl _, HTW2, HRW2⟩
            · have hltz : ¬ (i : Int) < (n1 : Int) := by omega
              obtain rfl : n1 = i := by omega
              rw [List.take_of_length_le (by rw [HNb.out]; exact Nat.le_refl _)] at HTW
              clear hin hgg hlt
              have hcon := tw_told HTW.out.swap (by have := HZ.out; omega)
              go_wp2_with fail
              refine (show Calls Try.prog _ _ _ _ from hcon).mono ?_
              rintro e w8 ⟨sx, rfl, Rx, htl⟩
              obtain ⟨ax, cx, rfl, -, -⟩ := htl.row.form
              obtain ⟨mx, hmx⟩ : ∃ m, (runA A l1).tellL.length = m := ⟨_, rfl⟩
              rw [hmx] at htl ⊢
              have HMx := Lib.hid hmx
              have HRWx := Lib.hid htl.row
              clear hcon 
              have HTW3 := Lib.hid (HTW.out.swap.minds htl).swap
              have HRW3 := Lib.hid (HRW.out.below htl.bel)
              clear htl hmx HTW HRW
              have hcon := tw_told HTW3.out (by have := HZ.out; omega)
              go_wp2_with fail
              refine (show Calls Try.prog _ _ _ _ from hcon).mono ?_
              rintro e w9 ⟨sv, rfl, Rv, htl⟩
              obtain ⟨av, cv, rfl, -, -⟩ := htl.row.form
              obtain ⟨mv, hmv⟩ : ∃ m, A.tellL.length = m := ⟨_, rfl⟩
              rw [hmv] at htl ⊢
              have HMv := Lib.hid hmv
              have HRWv := Lib.hid htl.row
              clear hcon 
              have HTW4 := Lib.hid (HTW3.out.below htl.bel)
              have HRW4 := Lib.hid (HRW3.out.below htl.bel)
              have HRX4 := Lib.hid (HRWx.out.below htl.bel)
              obtain rfl : mv = mw := by rw [← HMw.out, ← HMv.out]
              clear htl hmv HTW3 HRW3 HRWx
              have hcon := alike_is _ _ _ av aw cv cw mv A.tellL HMv.out HRWv.out HRW4.out
              go_wp2_with fail
              refine (show Calls Try.prog _ _ _ _ from hcon).mono ?_
              rintro e w10 ⟨rfl, hb⟩
              have HTW5 := Lib.hid (HTW4.out.below hb)
              have HRX5 := Lib.hid (HRX4.out.below hb)
              clear hcon hb HTW4 HRW4 HRX4 HRWv
              go_wp2_with fail
              go_loopg [11] n1 (fun gg s11 wq => ∃ i : Nat, s11 = .int .i64 i ∧ i ≤ n1 ∧ n1 - i ≤ gg ∧ Hid (Tw (fun k => (False ∨ BlkR Rw (.slice aw mv cw) k) ∨ BlkR Rx (.slice ax mx cx) k) w wq h (runA A (l1.take i)) (z + 3 * i) c (runA A l1) (z + 3 * n1)) ∧ Hid (RowP Rx wq (.slice ax mx cx) (runA A l1).tellL))
              case atStart => exact ⟨0, rfl, Nat.zero_le _, by omega, HTW5, HRX5⟩
              case round =>
                obtain ⟨i, rfl, hin, hgg, HTW, HRX⟩ := hrel
                clear HTW5 HRX5
                by_cases hlt : i < n1
                · have hltz : (i : Int) < (n1 : Int) := by omega
                  have HL := Lib.hid (And.intro hlt (And.intro hin hgg))
                  clear hgg hin
                  obtain ⟨st, sb, so, ra, rc, rn, hst, hmem, hrn, rfl, hrw, hwf, hbl, q0, q1, q2, q3, q4, q5, q6, q7, q8, q9, q10⟩ := step_at HSb.out HTW.out.bel HNb.out hlt
                  have HST := Lib.hid (And.intro hst (And.intro hrn (And.intro hwf (HFb.out.2 st hmem))))
                  have hcon := tw_do HTW.out st ra rc rn hrn (by have := HFb.out.2 st hmem; omega) hwf hrw (by have := HZ.out; omega)
                  unfold stpV at hcon
                  clear hst hmem hrn hwf hrw
                  go_wp2_with fail
                  refine (show Calls Try.prog _ _ _ _ from hcon).mono ?_
                  rintro e w7 ⟨rfl, ho, hs7⟩
                  have HTW2 : Hid (Tw (fun k => (False ∨ BlkR Rw (.slice aw mv cw) k) ∨ BlkR Rx (.slice ax mx cx) k) w w7 h (runA A (l1.take (i + 1))) (z + 3 * (i + 1)) c (runA A l1) (z + 3 * n1)) := Lib.hid (by rw [runA_take HST.out.1]; exact ho)
                  have HRX2 := Lib.hid (HRX.out.kept hs7 (fun k hk => .inr hk))
                  clear hcon ho hs7 hbl q0 q1 q2 q3 q4 q5 q6 q7 q8 q9 q10 hlt HTW HRX
                  go_wp2_with fail
                  go_roundg (n1 - (i + 1))
                  case measure => have := HL.out; omega
                  case rel => exact ⟨i + 1, by go_num, by have := HL.out; omega, Nat.le_refl _, HTW2, HRX2⟩
                · have hltz : ¬ (i : Int) < (n1 : Int) := by omega
                  obtain rfl : n1 = i := by omega
                  rw [List.take_of_length_le (by rw [HNb.out]; exact Nat.le_refl _)] at HTW
                  clear hin hgg hlt
                  have hcon := tw_told HTW.out (by have := HZ.out; omega)
                  go_wp2_with fail
                  refine (show Calls Try.prog _ _ _ _ from hcon).mono ?_
                  rintro e w11 ⟨su, rfl, Ru, htl⟩
                  obtain ⟨au, cu, rfl, -, -⟩ := htl.row.form
                  obtain ⟨mu, hmu⟩ : ∃ m, (runA A l1).tellL.length = m := ⟨_, rfl⟩
                  rw [hmu] at htl ⊢
                  have HMu := Lib.hid hmu
                  have HRWu := Lib.hid htl.row
                  clear hcon 
                  have HTW6 := Lib.hid (HTW.out.below htl.bel)
                  have HRX6 := Lib.hid (HRX.out.below htl.bel)
                  obtain rfl : mu = mx := by rw [← HMx.out, ← HMu.out]
                  clear htl hmu HTW HRX
                  have hcon := alike_is _ _ _ au ax cu cx mu (runA A l1).tellL HMu.out HRWu.out HRX6.out
                  go_wp2_with fail
                  refine (show Calls Try.prog _ _ _ _ from hcon).mono ?_
                  rintro e w12 ⟨rfl, hb⟩
                  have HTW7 := Lib.hid (HTW6.out.below hb)
                  have HRX7 := Lib.hid (HRX6.out.below hb)
                  clear hcon hb HTW6 HRX6 HRWu
                  have hcon := tw_told HTW7.out.swap (by have := HZ.out; omega)
                  go_wp2_with fail
                  refine (show Calls Try.prog _ _ _ _ from hcon).mono ?_
                  rintro e w13 ⟨st, rfl, Rt, htl⟩
                  obtain ⟨at_, ct, rfl, -, -⟩ := htl.row.form
                  obtain ⟨mt, hmt⟩ : ∃ m, (runA A l1).tellL.length = m := ⟨_, rfl⟩
                  rw [hmt] at htl ⊢
                  have HMt := Lib.hid hmt
                  have HRWt := Lib.hid htl.row
                  clear hcon 
                  have HTW8 := Lib.hid (HTW7.out.below htl.bel)
                  have HRX8 := Lib.hid (HRX7.out.below htl.bel)
                  obtain rfl : mt = mu := by rw [← HMu.out, ← HMt.out]
                  clear htl hmt HTW7 HRX7
                  have hcon := alike_is _ _ _ at_ ax ct cx mt (runA A l1).tellL HMt.out HRWt.out HRX8.out
                  go_wp2_with fail
                  refine (show Calls Try.prog _ _ _ _ from hcon).mono ?_
                  rintro e w14 ⟨rfl, hb⟩
                  have HEND := Lib.hid (HTW8.out.below hb).bel
                  clear hcon hb
                  go_wp2_with fail
                  go_ret
                  exact ⟨rfl, HEND.out⟩

end Go.Proofs.Ytkedkeelbbfmkaa
