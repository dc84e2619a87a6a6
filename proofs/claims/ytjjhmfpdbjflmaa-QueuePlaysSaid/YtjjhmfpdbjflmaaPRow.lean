/-
  Row and Holders: walked (stage 14).
-/
import Derived.Test.YtjjhmfpdbjflmaaPRead
namespace Go.Proofs.Ytjjhmfpdbjflmaa
open Go.RowKit
set_option linter.unusedVariables false

theorem take_fst {l : PL} {i : Nat} {p : Int × Int} (h : l[i]? = some p) : fsts (l.take (i + 1)) = fsts (l.take i) ++ [p.1] := by
  unfold fsts
  rw [List.take_add_one, h, List.map_append]
  rfl
theorem fsts_len (l : PL) : (fsts l).length = l.length := by unfold fsts; simp

set_option maxRecDepth 100000 in
set_option maxHeartbeats 4000000 in
theorem row_nil (w : World) : Calls Try.prog 23 #[.pointer none] w fun e w' => e = .returned (.slice none 0 0) ∧ Below w.heap.size w w' := by
  go_enter Try.func23, Try.ntmps23
  go_wp2_with fail
  go_ret
  exact ⟨rfl, Below.refl _ _⟩

set_option maxRecDepth 100000 in
set_option maxHeartbeats 4000000 in
theorem row_ex (w : World) (h b : Nat) (a : Option Addr) (n c : Nat) (z : Nat) (A : Lk) (hln : A.wt.length = n) (hn : n ≤ 100000) (H : LkM w h b (.slice a n c) z A) :
    Calls Try.prog 23 #[.pointer (some ⟨h, 0, none⟩)] w fun e w' => ∃ v, e = .returned v ∧ RowI w' v (fsts A.wt) ∧ (∀ k, v.ownBlock = some k → w.heap.size ≤ k) ∧ Below w.heap.size w w' := by
  obtain ⟨d0, d1, d2, dl⟩ := H.cells
  have HL := Lib.hid H
  have HLN := Lib.hid hln
  clear H hln
  go_enter Try.func23, Try.ntmps23
  go_wp2_with fail
  go_loopg [3, 5, 13] n (fun gg s3 _ s13 wr => ∃ (i : Nat) (oa : Option Addr) (on oc : Nat), s3 = .slice oa on oc ∧ s13 = .int .i64 i ∧ i ≤ n ∧ n - i ≤ gg ∧ Hid (Below w.heap.size w wr) ∧ Hid (RowI wr (.slice oa on oc) (fsts (A.wt.take i))) ∧ Hid ((fsts (A.wt.take i)).length = on) ∧ Hid (∀ k, Value.ownBlock (.slice oa on oc) = some k → w.heap.size ≤ k))
  case atStart => exact ⟨0, none, 0, 0, rfl, rfl, Nat.zero_le _, by omega, Lib.hid (Below.refl _ _), Lib.hid (RowF.nil _ _ _ _), Lib.hid rfl, Lib.hid (fun k hk => by cases hk)⟩
  case round =>
    obtain ⟨i, oa, on, oc, rfl, rfl, hi, hgg, HB, HR, HON, HOW⟩ := hrel
    clear d0 d1 d2 dl
    by_cases hlt : i < n
    · have hltz : (i : Int) < (n : Int) := by omega
      obtain ⟨p, hp⟩ : ∃ p, A.wt[i]? = some p := ⟨_, List.getElem?_eq_getElem (by rw [HLN.out]; exact hlt)⟩
      obtain ⟨bq, c', e1, -, -, hbl, c0, c1⟩ := (HL.out.below HB.out).row.at hp
      have ea : a = some ⟨bq, 0, none⟩ := by
        simp only [Value.slice.injEq] at e1
        exact e1.1
      subst ea
      have HPP := Lib.hid hp
      obtain ⟨py, pm⟩ := p
      have hnew := Lit.new wr 65 [.int .i64 py, .int .u8 pm]
      have hal := Below.allocs wr (.cells #[.int .i64 py, .int .u8 pm] 65)
      obtain ⟨W1, hW1⟩ : ∃ W1, wr.alloc (.cells #[.int .i64 py, .int .u8 pm] 65) = W1 := ⟨_, rfl⟩
      obtain ⟨g1, hg1⟩ : ∃ g1, wr.heap.size = g1 := ⟨_, rfl⟩
      have hnew : Lit W1 g1 65 [.int .i64 py, .int .u8 pm] := by rw [← hW1, ← hg1]; exact hnew
      rw [hW1] at hal
      have HR1 : Hid (RowI W1 (.slice oa on oc) (fsts (A.wt.take i))) := Lib.hid (RowF.below HR.out hal)
      have hon : on ≤ 100000 := by have := HON.out; rw [← this, fsts_len, List.length_take]; omega
      obtain ⟨a3, c3, W6, hrun, hrow, ht, ho⟩ := row_snoc 35 35 Try.underlying35 HR1.out py (by rw [HON.out]; omega)
      rw [HON.out] at hrun hrow ho
      have HRUN := Lib.hid hrun
      have HE6 := Lib.hid (And.intro hrow (And.intro ht ho))
      have HAL := Lib.hid hal
      have HLT := Lib.hid (And.intro hlt (And.intro hi hgg))
      have n0 := hnew.cell (o := 0) rfl
      have nl := hnew.lt
      have HW1 := Lib.hid hW1
      have HG1 := Lib.hid hg1
      clear hrun hrow ht ho hal hp e1 hnew hi hgg hon hW1 hg1
      go_upto_region 7 with (fail)
      rw [HW1.out, HG1.out]
      clear c0 c1
      go_wp2_with (first | (at_builtin; refine append_stepW rfl _ _ 35 rfl _ _ _ _ rfl rfl HRUN.out ?_) | fail)
      go_roundg (n - (i + 1))
      case measure => have := HLT.out; omega
      case rel =>
        obtain ⟨hrow, ht, ho⟩ := HE6.out
        have ef := take_fst HPP.out
        have hb1 := below_tr HB.out HAL.out
        exact ⟨i + 1, a3, on + 1, c3, rfl, by go_num, by have := HLT.out; omega, Nat.le_refl _, Lib.hid (hb1.trans (ht.below HOW.out hb1.size)), Lib.hid (by rw [ef]; exact hrow), Lib.hid (by rw [ef, List.length_append, HON.out]; rfl), Lib.hid (fun k hk => (ho k hk).elim (HOW.out k) (fun e => Nat.le_trans hb1.size e))⟩
    · have hltz : ¬ (i : Int) < (n : Int) := by omega
      have hni : i = n := by omega
      subst hni
      go_wp2_with fail
      go_ret
      have hfull : A.wt.take i = A.wt := List.take_of_length_le (by rw [HLN.out]; exact Nat.le_refl _)
      have hq := HR.out
      rw [hfull] at hq
      exact ⟨_, rfl, hq, HOW.out, HB.out⟩

theorem row_is (w : World) (h b : Nat) (s : Value) (z : Nat) (A : Lk) (hn : A.wt.length ≤ 100000) (H : LkM w h b s z A) :
    Calls Try.prog 23 #[.pointer (some ⟨h, 0, none⟩)] w fun e w' => ∃ v, e = .returned v ∧ RowI w' v (fsts A.wt) ∧ (∀ k, v.ownBlock = some k → w.heap.size ≤ k) ∧ Below w.heap.size w w' := by
  obtain ⟨a, c, rfl, -, -⟩ := H.row.form
  exact row_ex w h b a _ c z A rfl hn H

/-! ### Holders -/

theorem keys_is (mb : Option Nat) (W : World) : Calls Try.prog 52 #[.map mb] W fun e w' => e = .returned (.func (.func 67) #[] #[.pointer (some ⟨W.heap.size, 0, none⟩)]) ∧ w' = W.alloc (.cells #[.map mb] 55) :=
  (callsIn_wide (n := 5)).1 (AnyZI.keys_in Try.keysI Fence.wide 5 trivial rfl mb W)

theorem sortsI (m : Nat) : AnyZI.SortsIn Try.prog Try.sortedI_ren Fence.wide m :=
  ⟨fun blk off cap ss W hH hblk hsz => callsIn_wide.2 (AnyM.slices_Sort_int Try.sortI blk off cap ss W hH hblk hsz),
   fun p cap W => callsIn_wide.2 (AnyM.slices_Sort_int_none Try.sortI p cap W)⟩

theorem sorted_of (S : List Int → Prop) (N : Nat) (hN : N ≤ 1000000) (Bm : Nat) (w : World) (hseq : SeqGives Fence.wide 2 Try.prog 67 #[.pointer (some ⟨Bm, 0, none⟩)] encZ S N w) :
    Calls Try.prog 50 #[.func (.func 67) #[] #[.pointer (some ⟨Bm, 0, none⟩)]] w fun e w' => ∃ v, e = .returned v ∧ ∃ ss, S ss ∧ RowI w' v (sortI ss) ∧ (∀ k, v.ownBlock = some k → w.heap.size ≤ k) ∧ Below w.heap.size w w' := by
  have cS := AnyZI.sorted_in Try.sortedI Fence.wide 5 trivial trivial trivial trivial rfl (by omega) (sortsI _) (enters_of Try.func65 (by kernel_rfl) rfl) 67 #[.pointer (some ⟨Bm, 0, none⟩)] trivial (enters_of Try.func67 (by kernel_rfl) rfl) S N (by unfold maxLen; omega) (by omega) w hseq
  refine (show Calls Try.prog 50 _ _ _ from (callsIn_wide (n := 5)).1 cS).mono ?_
  rintro e w' ⟨v, ss, rfl, h1, h2, h3, h4⟩
  refine ⟨v, rfl, ss, h1, ?_, own_ge h2, h4⟩
  have e1 : ss.length = (sortI ss).length := ((sortI_perm ss).length_eq).symm
  rw [e1] at h2
  exact RowI.of_own h2

set_option maxRecDepth 100000 in
set_option maxHeartbeats 4000000 in
theorem holders_nil (w : World) : Calls Try.prog 22 #[.pointer none] w fun e w' => e = .returned (.slice none 0 0) ∧ Below w.heap.size w w' := by
  go_enter Try.func22, Try.ntmps22
  go_wp2_with fail
  go_ret
  exact ⟨rfl, Below.refl _ _⟩

set_option maxRecDepth 100000 in
set_option maxHeartbeats 4000000 in
theorem holders_is (w : World) (h b : Nat) (s : Value) (z : Nat) (A : Lk) (hok : Ok0 A) (hz : z ≤ 100000) (H : LkM w h b s z A) :
    Calls Try.prog 22 #[.pointer (some ⟨h, 0, none⟩)] w fun e w' => ∃ v, e = .returned v ∧ RowI w' v (fsts A.hd) ∧ (∀ k, v.ownBlock = some k → w.heap.size ≤ k) ∧ Below w.heap.size w w' := by
  obtain ⟨d0, d1, d2, dl⟩ := H.cells
  obtain ⟨D, h3, h5⟩ := H.map
  have hseq := AnyZI.keys_gives (ρ := Try.keysI_ren) { Try.keysI with } Fence.wide 2 trivial rfl (by omega) w.heap.size b z D (w.alloc (.cells #[.map (some b)] 55)) (by simp) (by simp) (h3.alloc _)
  have hS : ∀ ss : List Int, ss.Perm (intKeys D) → sortI ss = fsts A.hd := fun ss hs => by
    obtain ⟨q1, q2⟩ := keys_nodup h3
    refine rise_eq (sortI_rise (hs.nodup_iff.2 q1)) hok.rise fun y => ?_
    rw [(sortI_perm ss).mem_iff, hs.mem_iff, q2]
    constructor
    · rintro ⟨a1, a2⟩
      rw [(h5 y a1).1] at a2
      unfold mapV at a2
      refine (held_in hok).1 fun e => ?_
      rw [if_pos e] at a2
      cases a2
    · intro hy
      obtain ⟨m, hm⟩ := mem_fst hy
      have a1 := (hok.held _ hm).2.1
      refine ⟨a1, ?_⟩
      rw [(h5 y a1).1]
      unfold mapV
      rw [if_neg ((held_in hok).2 hy)]
      rfl
  have hc2 := keys_is (some b) w
  have hc3 := sorted_of _ _ (Nat.le_trans h3.size_le (Nat.le_trans hz (by decide))) w.heap.size _ hseq
  have HS := Lib.hid hS
  have HB := Lib.hid (Below.allocs w (.cells #[.map (some b)] 55))
  clear H hseq hS h3 h5
  go_enter Try.func22, Try.ntmps22
  go_wp2_with fail
  refine hc2.mono ?_
  rintro e w2 ⟨rfl, rfl⟩
  clear hc2
  go_wp2_with fail
  refine hc3.mono ?_
  rintro e w3 ⟨v, rfl, ss, h1, h2, h3, h4⟩
  have HE := Lib.hid (And.intro h1 (And.intro h2 (And.intro h3 h4)))
  clear hc3 h1 h2 h3 h4
  go_wp2_with fail
  go_ret
  obtain ⟨h1, h2, h3, h4⟩ := HE.out
  rw [HS.out ss h1] at h2
  exact ⟨v, rfl, h2, fun k hk => Nat.le_trans HB.out.size (h3 k hk), below_tr HB.out h4⟩

end Go.Proofs.Ytjjhmfpdbjflmaa
