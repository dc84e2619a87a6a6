/-
  Waits, For, Holders, Row of the document's lock (stage 14).
-/
import Derived.Test.YtjjhmfpdbjflmaaPRgx
import Derived.Test.YtjjhmfpdbjflmaaPRfw
namespace Go.Proofs.Ytjjhmfpdbjflmaa
open Go.RowKit
set_option linter.unusedVariables false

set_option maxRecDepth 100000 in
set_option maxHeartbeats 8000000 in
theorem rwaits_no (w : World) (x : Nat) (s t : Value) (A : Lk) (y : Int) (hx : y ∉ fsts A.wt) (H : RkM w x s t A) : Calls Try.prog 45 #[.pointer (some ⟨x, 0, none⟩), .int .i64 y] w fun e w' => e = .returned (.tuple #[.int .u8 0, .bool false]) ∧ Below w.heap.size w w' := by
  have hr : placeI A.wt y = -1 := by unfold placeI; rw [if_neg hx]
  have HC := Lib.hid (rplace_is w x s t A y H _ hr)
  have HRK := Lib.hid H
  clear H hr hx
  go_enter Try.func45, Try.ntmps45
  go_wp2_with fail
  refine HC.out.mono ?_
  rintro e w2 ⟨rfl, hb⟩
  have HB := Lib.hid hb
  have HK := Lib.hid (HRK.out.below hb)
  clear hb HC
  go_wp2_with fail
  exact bodyPost_ret (v := .tuple #[.int .u8 0, .bool false]) (by first | (simp [results, Try.results45, go_sem]; done) | (simp [results, Try.results45, go_sem]; rfl)) rfl ⟨rfl, HB.out⟩

set_option maxRecDepth 100000 in
set_option maxHeartbeats 8000000 in
theorem rwaits_yes (w : World) (x : Nat) (s t : Value) (A : Lk) (y : Int) (hx : y ∈ fsts A.wt) (H : RkM w x s t A) : Calls Try.prog 45 #[.pointer (some ⟨x, 0, none⟩), .int .i64 y] w fun e w' => e = .returned (.tuple #[.int .u8 (heldL A.wt y), .bool true]) ∧ Below w.heap.size w w' := by
  obtain ⟨i1, i2, i3⟩ := idx_in hx
  obtain ⟨i, hi⟩ : ∃ i, idxL A.wt y = i := ⟨_, rfl⟩
  obtain ⟨v, hv⟩ : ∃ v, heldL A.wt y = v := ⟨_, rfl⟩
  rw [hi, hv] at i2
  have hr : placeI A.wt y = (i : Int) := by unfold placeI; rw [if_pos hx, hi]
  have HC := Lib.hid (rplace_is w x s t A y H _ hr)
  have HRK := Lib.hid H
  have HI := Lib.hid i2
  have HIE := Lib.hid hi
  have HVE := Lib.hid hv
  rw [hv]
  obtain ⟨a, c, rfl, -, -⟩ := H.wt.form
  obtain ⟨n, hn⟩ : ∃ n, A.wt.length = n := ⟨_, rfl⟩
  rw [hn] at H HRK
  rw [hn] at i1
  have hin : i < n := by omega
  have hinz : (i : Int) < (n : Int) := by omega
  have hi0 : ¬ (i : Int) < 0 := by omega
  obtain ⟨b, e1, -⟩ := H.wt.look i2
  subst e1
  clear H hr i1 i2 i3 hi hv hn
  clear hx
  go_enter Try.func45, Try.ntmps45
  go_wp2_with fail
  refine HC.out.mono ?_
  rintro e w2 ⟨rfl, hb⟩
  have HB := Lib.hid hb
  have HK := Lib.hid (HRK.out.below hb)
  clear hb HC
  obtain ⟨d0, d1, d2, dl⟩ := HK.out.cells
  obtain ⟨hbl, -, -, q2, -⟩ := HK.out.wt.cell HI.out
  have q3 : w2.cell? ⟨b, i * 3 + 2, none⟩ = some (.int .u8 v) := q2
  clear q2
  go_wp2_with fail
  exact bodyPost_ret (v := .tuple #[.int .u8 v, .bool true]) (by first | (simp [results, Try.results45, go_sem]; done) | (simp [results, Try.results45, go_sem]; rfl)) rfl ⟨rfl, HB.out⟩

theorem rwaits_is (w : World) (x : Nat) (s t : Value) (A : Lk) (y : Int) (H : RkM w x s t A) (m : Int) (hm : waitsV A y = m) (q : Bool) (hq : waitsB A y = q) :
    Calls Try.prog 45 #[.pointer (some ⟨x, 0, none⟩), .int .i64 y] w fun e w' => e = .returned (.tuple #[.int .u8 m, .bool q]) ∧ Below w.heap.size w w' := by
  subst hm hq
  unfold waitsV waitsB
  by_cases hx : y ∈ fsts A.wt
  · rw [if_pos hx, decide_eq_true hx]
    exact rwaits_yes w x s t A y hx H
  · rw [if_neg hx, decide_eq_false hx]
    exact rwaits_no w x s t A y hx H

set_option maxRecDepth 100000 in
set_option maxHeartbeats 8000000 in
theorem rfor_no (w : World) (x : Nat) (s t : Value) (A : Lk) (y : Int) (hx : y ∉ fsts A.wt) (H : RkM w x s t A) : Calls Try.prog 46 #[.pointer (some ⟨x, 0, none⟩), .int .i64 y] w fun e w' => e = .returned (.slice none 0 0) ∧ Below w.heap.size w w' := by
  have hr : placeI A.wt y = -1 := by unfold placeI; rw [if_neg hx]
  have HC := Lib.hid (rplace_is w x s t A y H _ hr)
  have HRK := Lib.hid H
  clear H hr hx
  go_enter Try.func46, Try.ntmps46
  go_wp2_with fail
  refine HC.out.mono ?_
  rintro e w2 ⟨rfl, hb⟩
  have HB := Lib.hid hb
  have HK := Lib.hid (HRK.out.below hb)
  clear hb HC
  go_wp2_with fail
  go_ret
  exact ⟨rfl, HB.out⟩

set_option maxRecDepth 100000 in
set_option maxHeartbeats 8000000 in
theorem rfor_yes (w : World) (x : Nat) (s t : Value) (A : Lk) (y : Int) (hok : Ok0 A) (hlen : A.hd.length + A.wt.length ≤ 100000) (hx : y ∈ fsts A.wt) (H : RkM w x s t A) : Calls Try.prog 46 #[.pointer (some ⟨x, 0, none⟩), .int .i64 y] w fun e w' => ∃ v, e = .returned v ∧ RowI w' v (A.whom y) ∧ (∀ k, v.ownBlock = some k → w.heap.size ≤ k) ∧ Below w.heap.size w w' := by
  obtain ⟨i1, i2, i3⟩ := idx_in hx
  obtain ⟨i, hi⟩ : ∃ i, idxL A.wt y = i := ⟨_, rfl⟩
  obtain ⟨v, hv⟩ : ∃ v, heldL A.wt y = v := ⟨_, rfl⟩
  rw [hi, hv] at i2
  have hr : placeI A.wt y = (i : Int) := by unfold placeI; rw [if_pos hx, hi]
  have HC := Lib.hid (rplace_is w x s t A y H _ hr)
  have HRK := Lib.hid H
  have HI := Lib.hid i2
  have HIE := Lib.hid hi
  have HVE := Lib.hid hv
  have HW : Hid (A.whom y = forL A.c A.hd (A.wt.take i) y v) := Lib.hid (by unfold Lk.whom; rw [if_pos hx, hi, hv])
  have HM8 : Hid (U8 v) := Lib.hid (may_u8 (hok.wts _ (List.mem_of_getElem? i2)).2.2)
  have HAH : Hid (i ≤ A.wt.length) := Lib.hid (by omega)
  have HOK := Lib.hid hok
  have HLEN := Lib.hid hlen
  obtain ⟨a, c, rfl, -, -⟩ := H.wt.form
  obtain ⟨n, hn⟩ : ∃ n, A.wt.length = n := ⟨_, rfl⟩
  rw [hn] at H HRK
  rw [hn] at i1
  have hin : i < n := by omega
  have hinz : (i : Int) < (n : Int) := by omega
  have hi0 : ¬ (i : Int) < 0 := by omega
  obtain ⟨b, e1, -⟩ := H.wt.look i2
  subst e1
  clear H hr i1 i2 i3 hi hv hn
  clear hx hok hlen
  go_enter Try.func46, Try.ntmps46
  go_wp2_with fail
  refine HC.out.mono ?_
  rintro e w2 ⟨rfl, hb⟩
  have HB := Lib.hid hb
  have HK := Lib.hid (HRK.out.below hb)
  clear hb HC
  obtain ⟨d0, d1, d2, dl⟩ := HK.out.cells
  obtain ⟨hbl, -, -, q2, -⟩ := HK.out.wt.cell HI.out
  have q3 : w2.cell? ⟨b, i * 3 + 2, none⟩ = some (.int .u8 v) := q2
  clear q2
  have hcon := rfw_is w2 x _ _ A y v i HAH.out HOK.out HM8.out HLEN.out HK.out
  go_wp2_with fail
  refine (show Calls Try.prog _ _ _ _ from hcon).mono ?_
  rintro e w3 ⟨vo, rfl, h1, h2, h3⟩
  have HE : Hid (RowI w3 vo (A.whom y) ∧ (∀ k, vo.ownBlock = some k → w.heap.size ≤ k) ∧ Below w.heap.size w w3) := Lib.hid ⟨by rw [HW.out]; exact h1, fun k hk => Nat.le_trans HB.out.size (h2 k hk), below_tr HB.out h3⟩
  clear hcon h1 h2 h3 hbl q3 d0 d1 d2 dl
  go_wp2_with fail
  go_ret
  exact ⟨_, rfl, HE.out.1, HE.out.2.1, HE.out.2.2⟩

theorem rfor_is (w : World) (x : Nat) (s t : Value) (A : Lk) (y : Int) (hok : Ok0 A) (hlen : A.hd.length + A.wt.length ≤ 100000) (H : RkM w x s t A) : Calls Try.prog 46 #[.pointer (some ⟨x, 0, none⟩), .int .i64 y] w fun e w' => ∃ v, e = .returned v ∧ RowI w' v (A.whom y) ∧ (∀ k, v.ownBlock = some k → w.heap.size ≤ k) ∧ Below w.heap.size w w' := by
  by_cases hx : y ∈ fsts A.wt
  · exact rfor_yes w x s t A y hok hlen hx H
  · refine (rfor_no w x s t A y hx H).mono ?_
    rintro e w' ⟨rfl, hb⟩
    refine ⟨_, rfl, ?_, fun k hk => (by cases hk), hb⟩
    unfold Lk.whom
    rw [if_neg hx]
    exact RowF.nil _ _ _ _

theorem rowI_push {W : World} {s : Value} {l : List Int} (h : RowI W s l) (z : Int) (hn : l.length + 1 ≤ 1000000) :
    ∃ a' c' W6, (∀ ty, (Builtin.append_ #[35, 35] ty #[s, .slice (some ⟨W.heap.size, 0, none⟩) 1 1]).run Try.prog (W.alloc (.cells #[.int .i64 z] 3)) = .ok (.slice a' (l.length + 1) c') W6) ∧ RowI W6 (.slice a' (l.length + 1) c') (l ++ [z]) ∧ Touch (fun j => s.ownBlock = some j) W W6 ∧ ∀ j, Value.ownBlock (.slice a' (l.length + 1) c') = some j → s.ownBlock = some j ∨ W.heap.size ≤ j := by
  have hal := Below.allocs W (.cells #[.int .i64 z] 3)
  have h1 : RowI (W.alloc (.cells #[.int .i64 z] 3)) (.slice (some ⟨W.heap.size, 0, none⟩) 1 1) [z] := lit_rowI W [z] 1 rfl (by unfold maxLen; omega)
  obtain ⟨a', c', W6, r, q, t, o⟩ := row_app (RowF.below h hal) h1 hn
  exact ⟨a', c', W6, r, q, (Touch.of_below hal).trans t (fun _ _ h => h), fun j hj => (o j hj).imp id (fun e => Nat.le_trans hal.size e)⟩

set_option maxRecDepth 100000 in
set_option maxHeartbeats 8000000 in
theorem rhold_ex (w : World) (x : Nat) (a : Option Addr) (n c : Nat) (t : Value) (A : Lk) (hlen : A.hd.length ≤ 100000) (H : RkM w x (.slice a n c) t A) :
    Calls Try.prog 47 #[.pointer (some ⟨x, 0, none⟩)] w fun e w' => ∃ v, e = .returned v ∧ RowI w' v (fsts A.hd) ∧ (∀ k, v.ownBlock = some k → w.heap.size ≤ k) ∧ Below w.heap.size w w' := by
  obtain ⟨hnc, hcm, hln⟩ := H.hd.cap
  have hn : n ≤ 100000 := by omega
  have HRK := Lib.hid H
  have HL := Lib.hid hln
  clear H hln hlen
  go_enter Try.func47, Try.ntmps47
  go_wp2_with fail
  go_loopg [3, 4] n (fun gg s3 s4 wr => ∃ (i : Nat) (vo : Value), vo = s3 ∧ s4 = .int .i64 i ∧ i ≤ n ∧ n - i ≤ gg ∧ Hid (RowI wr vo (fsts (A.hd.take i)) ∧ ∀ k, vo.ownBlock = some k → w.heap.size ≤ k) ∧ Hid (Below w.heap.size w wr))
  case atStart => exact ⟨0, _, rfl, rfl, Nat.zero_le _, by omega, Lib.hid ⟨RowF.nil _ _ _ _, fun k hk => by cases hk⟩, Lib.hid (Below.refl _ _)⟩
  case round =>
    obtain ⟨i, vo, rfl, rfl, hi, hgg, HO, HB⟩ := hrel
    obtain ⟨d0, d1, d2, dl⟩ := (HRK.out.below HB.out).cells
    by_cases hlt : i < n
    · have hltz : (i : Int) < (n : Int) := by omega
      obtain ⟨p, hp⟩ := get_pl (l := A.hd) (i := i) (by rw [← HL.out]; exact hlt)
      obtain ⟨b, e1, hbl, q0, -⟩ := (HRK.out.below HB.out).hd.look hp
      subst e1
      have HP := Lib.hid hp
      have HLT := Lib.hid (And.intro hlt (And.intro hi hgg))
      obtain ⟨a', c', W6, r, q, t6, o⟩ := rowI_push HO.out.1 p.1 (by rw [fsts_len, List.length_take]; have := HLT.out; omega)
      have HOn : Hid (RowI W6 (.slice a' ((fsts (A.hd.take i)).length + 1) c') (fsts (A.hd.take (i + 1))) ∧ ∀ k, Value.ownBlock (.slice a' ((fsts (A.hd.take i)).length + 1) c') = some k → w.heap.size ≤ k) := Lib.hid ⟨by rw [take_fst HP.out]; exact q, fun k hk => (o k hk).elim (HO.out.2 k) (fun e => Nat.le_trans HB.out.size e)⟩
      have HBn : Hid (Below w.heap.size w W6) := Lib.hid (HB.out.trans (t6.below (fun j hj => HO.out.2 j hj) HB.out.size))
      have R := Lib.hid r
      clear hp hi hgg HO HB r q t6 o
      go_wp2_with (first | (at_builtin; refine append_stepW rfl _ _ 35 rfl _ _ _ _ rfl rfl (R.out _) ?_) | fail)
      go_roundg (n - (i + 1))
      case measure => have := HLT.out; omega
      case rel => exact ⟨i + 1, _, rfl, by go_num, by have := HLT.out; omega, Nat.le_refl _, HOn, HBn⟩
    · have hltz : ¬ (i : Int) < (n : Int) := by omega
      have hin : i = n := by omega
      have HE : Hid (RowI wr vo (fsts A.hd) ∧ (∀ k, vo.ownBlock = some k → w.heap.size ≤ k) ∧ Below w.heap.size w wr) := Lib.hid ⟨by
        have h1 := HO.out.1
        rw [hin, HL.out, List.take_length] at h1
        exact h1, HO.out.2, HB.out⟩
      clear HO HB hin
      go_wp2_with fail
      go_ret
      exact ⟨_, rfl, HE.out.1, HE.out.2.1, HE.out.2.2⟩
theorem rhold_is (w : World) (x : Nat) (s t : Value) (A : Lk) (hlen : A.hd.length ≤ 100000) (H : RkM w x s t A) :
    Calls Try.prog 47 #[.pointer (some ⟨x, 0, none⟩)] w fun e w' => ∃ v, e = .returned v ∧ RowI w' v (fsts A.hd) ∧ (∀ k, v.ownBlock = some k → w.heap.size ≤ k) ∧ Below w.heap.size w w' := by
  obtain ⟨a, c, rfl, -, -⟩ := H.hd.form
  exact rhold_ex w x a _ c t A hlen H

set_option maxRecDepth 100000 in
set_option maxHeartbeats 8000000 in
theorem rrow_ex (w : World) (x : Nat) (a : Option Addr) (n c : Nat) (s : Value) (A : Lk) (hlen : A.wt.length ≤ 100000) (H : RkM w x s (.slice a n c) A) :
    Calls Try.prog 48 #[.pointer (some ⟨x, 0, none⟩)] w fun e w' => ∃ v, e = .returned v ∧ RowI w' v (fsts A.wt) ∧ (∀ k, v.ownBlock = some k → w.heap.size ≤ k) ∧ Below w.heap.size w w' := by
  obtain ⟨hnc, hcm, hln⟩ := H.wt.cap
  have hn : n ≤ 100000 := by omega
  have HRK := Lib.hid H
  have HL := Lib.hid hln
  clear H hln hlen
  go_enter Try.func48, Try.ntmps48
  go_wp2_with fail
  go_loopg [3, 4] n (fun gg s3 s4 wr => ∃ (i : Nat) (vo : Value), vo = s3 ∧ s4 = .int .i64 i ∧ i ≤ n ∧ n - i ≤ gg ∧ Hid (RowI wr vo (fsts (A.wt.take i)) ∧ ∀ k, vo.ownBlock = some k → w.heap.size ≤ k) ∧ Hid (Below w.heap.size w wr))
  case atStart => exact ⟨0, _, rfl, rfl, Nat.zero_le _, by omega, Lib.hid ⟨RowF.nil _ _ _ _, fun k hk => by cases hk⟩, Lib.hid (Below.refl _ _)⟩
  case round =>
    obtain ⟨i, vo, rfl, rfl, hi, hgg, HO, HB⟩ := hrel
    obtain ⟨d0, d1, d2, dl⟩ := (HRK.out.below HB.out).cells
    by_cases hlt : i < n
    · have hltz : (i : Int) < (n : Int) := by omega
      obtain ⟨p, hp⟩ := get_pl (l := A.wt) (i := i) (by rw [← HL.out]; exact hlt)
      obtain ⟨b, e1, hbl, q0, -⟩ := (HRK.out.below HB.out).wt.look hp
      subst e1
      have HP := Lib.hid hp
      have HLT := Lib.hid (And.intro hlt (And.intro hi hgg))
      obtain ⟨a', c', W6, r, q, t6, o⟩ := rowI_push HO.out.1 p.1 (by rw [fsts_len, List.length_take]; have := HLT.out; omega)
      have HOn : Hid (RowI W6 (.slice a' ((fsts (A.wt.take i)).length + 1) c') (fsts (A.wt.take (i + 1))) ∧ ∀ k, Value.ownBlock (.slice a' ((fsts (A.wt.take i)).length + 1) c') = some k → w.heap.size ≤ k) := Lib.hid ⟨by rw [take_fst HP.out]; exact q, fun k hk => (o k hk).elim (HO.out.2 k) (fun e => Nat.le_trans HB.out.size e)⟩
      have HBn : Hid (Below w.heap.size w W6) := Lib.hid (HB.out.trans (t6.below (fun j hj => HO.out.2 j hj) HB.out.size))
      have R := Lib.hid r
      clear hp hi hgg HO HB r q t6 o
      go_wp2_with (first | (at_builtin; refine append_stepW rfl _ _ 35 rfl _ _ _ _ rfl rfl (R.out _) ?_) | fail)
      go_roundg (n - (i + 1))
      case measure => have := HLT.out; omega
      case rel => exact ⟨i + 1, _, rfl, by go_num, by have := HLT.out; omega, Nat.le_refl _, HOn, HBn⟩
    · have hltz : ¬ (i : Int) < (n : Int) := by omega
      have hin : i = n := by omega
      have HE : Hid (RowI wr vo (fsts A.wt) ∧ (∀ k, vo.ownBlock = some k → w.heap.size ≤ k) ∧ Below w.heap.size w wr) := Lib.hid ⟨by
        have h1 := HO.out.1
        rw [hin, HL.out, List.take_length] at h1
        exact h1, HO.out.2, HB.out⟩
      clear HO HB hin
      go_wp2_with fail
      go_ret
      exact ⟨_, rfl, HE.out.1, HE.out.2.1, HE.out.2.2⟩
theorem rrow_is (w : World) (x : Nat) (s t : Value) (A : Lk) (hlen : A.wt.length ≤ 100000) (H : RkM w x s t A) :
    Calls Try.prog 48 #[.pointer (some ⟨x, 0, none⟩)] w fun e w' => ∃ v, e = .returned v ∧ RowI w' v (fsts A.wt) ∧ (∀ k, v.ownBlock = some k → w.heap.size ≤ k) ∧ Below w.heap.size w w' := by
  obtain ⟨a, c, rfl, -, -⟩ := H.wt.form
  exact rrow_ex w x a _ c s A hlen H

end Go.Proofs.Ytjjhmfpdbjflmaa
