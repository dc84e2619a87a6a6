/-
  IDs: walked (stage 11).
-/
import Derived.Test.YtbgnbaogclnpgaaGreatHSlots
namespace Go.Proofs.YtbgnbaogclnpgaaGreat
open Go.RowKit
set_option linter.unusedVariables false

theorem keys_nodup {W : World} {b n : Nat} {D : DataW Value} (h : W.ownsMap Tryz.prog 3 KR b n D) : (intKeys D).Nodup ∧ ∀ x, x ∈ intKeys D ↔ I64 x ∧ Maps.has D (.int .i64 x) = true := by
  obtain ⟨es, rfl, hp, hk⟩ := own_keys h
  constructor
  · show (es.map fun p => _).Nodup
    rw [List.nodup_iff_pairwise_ne, List.pairwise_map]
    refine hp.imp_of_mem fun {p q} hpm hqm hne e => ?_
    obtain ⟨x, e1, _⟩ := hk p hpm
    obtain ⟨y, e2, _⟩ := hk q hqm
    rw [e1, e2] at e
    apply hne
    rw [e1, e2]
    exact congrArg _ e
  · intro x
    constructor
    · intro hx
      obtain ⟨p, hpm, e⟩ := List.mem_map.1 hx
      obtain ⟨y, e1, e2⟩ := hk p hpm
      rw [e1] at e
      have : y = x := e
      subst this
      refine ⟨e2, ?_⟩
      rw [Maps.has_eq, List.any_eq_true]
      exact ⟨p, hpm, by rw [e1]; exact WideAt.sameKey_self (lawI.key (keyI e2))⟩
    · rintro ⟨hx, h1⟩
      rw [Maps.has_eq, List.any_eq_true] at h1
      obtain ⟨p, hpm, e⟩ := h1
      have := WideAt.sameKey_eq e
      exact List.mem_map.2 ⟨p, hpm, by rw [this]; rfl⟩

theorem keys_is (mb : Option Nat) (W : World) : Calls Tryz.prog 86 #[.map mb] W fun e w' => e = .returned (.func (.func 101) #[] #[.pointer (some ⟨W.heap.size, 0, none⟩)]) ∧ w' = W.alloc (.cells #[.map mb] 136) :=
  (callsIn_wide (n := 5)).1 (AnyZI.keys_in Tryz.keysI Fence.wide 5 trivial rfl mb W)

theorem sortsI (m : Nat) : AnyZI.SortsIn Tryz.prog Tryz.sortedI_ren Fence.wide m :=
  ⟨fun blk off cap ss W hH hblk hsz => callsIn_wide.2 (AnyM.slices_Sort_int Tryz.sortI blk off cap ss W hH hblk hsz),
   fun p cap W => callsIn_wide.2 (AnyM.slices_Sort_int_none Tryz.sortI p cap W)⟩

theorem sorted_of (S : List Int → Prop) (N : Nat) (hN : N ≤ 1000000) (Bm : Nat) (w : World) (hseq : SeqGives Fence.wide 2 Tryz.prog 101 #[.pointer (some ⟨Bm, 0, none⟩)] encZ S N w) :
    Calls Tryz.prog 85 #[.func (.func 101) #[] #[.pointer (some ⟨Bm, 0, none⟩)]] w fun e w' => ∃ v, e = .returned v ∧ ∃ ss, S ss ∧ RowI w' v (sortI ss) ∧ (∀ k, v.ownBlock = some k → w.heap.size ≤ k) ∧ Below w.heap.size w w' := by
  have cS := AnyZI.sorted_in Tryz.sortedI Fence.wide 5 trivial trivial trivial trivial rfl (by omega) (sortsI _) (enters_of Tryz.func100 (by kernel_rfl) rfl) 101 #[.pointer (some ⟨Bm, 0, none⟩)] trivial (enters_of Tryz.func101 (by kernel_rfl) rfl) S N (by unfold maxLen; omega) (by omega) w hseq
  refine (show Calls Tryz.prog 85 _ _ _ from (callsIn_wide (n := 5)).1 cS).mono ?_
  rintro e w' ⟨v, ss, rfl, h1, h2, h3, h4⟩
  refine ⟨v, rfl, ss, h1, ?_, own_ge h2, h4⟩
  have e1 : ss.length = (sortI ss).length := ((sortI_perm ss).length_eq).symm
  rw [e1] at h2
  exact RowI.of_own h2

set_option maxRecDepth 100000 in
set_option maxHeartbeats 4000000 in
/-- IDs, whatever v is, if index of it is. -/
theorem ids_is (v : Value) (x : Int) (mv : Value) (ix : Int → List Nat) (z : Nat) (hz : z ≤ 1000000) (w : World) (hX : Idx w v x mv) (hI : IdxAt w z mv ix) :
    Calls Tryz.prog 55 #[v, .int .i64 x] w fun e w' => ∃ s, e = .returned s ∧ ∃ l, RowI w' s l ∧ Rise l ∧ (∀ y, y ∈ l ↔ I64 y ∧ ix y ≠ []) ∧ (∀ k, s.ownBlock = some k → w.heap.size ≤ k) ∧ Below w.heap.size w w' := by
  obtain ⟨mb, S, N, hmv, hN, hseq, hS⟩ : ∃ (mb : Option Nat) (S : List Int → Prop) (N : Nat), mv = .map mb ∧ N ≤ 1000000 ∧ SeqGives Fence.wide 2 Tryz.prog 101 #[.pointer (some ⟨w.heap.size, 0, none⟩)] encZ S N (w.alloc (.cells #[mv] 136)) ∧ ∀ ss, S ss → ss.Nodup ∧ ∀ y, y ∈ ss ↔ I64 y ∧ ix y ≠ [] := by
    rcases hI with ⟨rfl, h0⟩ | ⟨bi, n, lp, rfl, h2, ⟨D, h3, h5⟩, h4⟩
    · refine ⟨none, fun ss => ss = [], 0, rfl, by omega, AnyZI.keys_gives_nil (ρ := Tryz.keysI_ren) { Tryz.keysI with } Fence.wide _ trivial rfl w.heap.size _ (by simp) (by simp), fun ss hs => ?_⟩
      subst hs
      exact ⟨List.nodup_nil, fun y => ⟨fun h => absurd h (by simp), fun h => absurd (h0 y) h.2⟩⟩
    · refine ⟨some bi, fun ss => ss.Perm (intKeys D), Maps.size D, rfl, by have := h3.size_le; omega, AnyZI.keys_gives (ρ := Tryz.keysI_ren) { Tryz.keysI with } Fence.wide _ trivial rfl (by omega) w.heap.size bi n D _ (by simp) (by simp) (h3.alloc _), fun ss hs => ?_⟩
      obtain ⟨q1, q2⟩ := keys_nodup h3
      refine ⟨hs.nodup_iff.2 q1, fun y => ?_⟩
      rw [hs.mem_iff, q2]
      constructor
      · rintro ⟨a1, a2⟩
        refine ⟨a1, fun e => ?_⟩
        rw [(h5 y a1).1] at a2
        simp only [if_pos e] at a2
        cases a2
      · rintro ⟨a1, a2⟩
        refine ⟨a1, ?_⟩
        rw [(h5 y a1).1]
        simp only [if_neg a2]
        rfl
  have hc1 := hX w (Below.refl _ _)
  have hc2 := keys_is mb w
  rw [hmv] at hc1 hseq
  have hc3 := sorted_of S N hN w.heap.size _ hseq
  have HS := Lib.hid hS
  have HB := Lib.hid (Below.allocs w (.cells #[.map mb] 136))
  clear hX hI hmv hN hseq hS hz
  go_enter Tryz.func55, Tryz.ntmps55
  go_wp2_with fail
  refine hc1.mono ?_
  rintro e w1 ⟨rfl, rfl⟩
  clear hc1
  go_wp2_with fail
  refine hc2.mono ?_
  rintro e w2 ⟨rfl, rfl⟩
  clear hc2
  go_wp2_with fail
  refine hc3.mono ?_
  rintro e w3 ⟨s, rfl, ss, h1, h2, h3, h4⟩
  have HE := Lib.hid (And.intro h1 (And.intro h2 (And.intro h3 h4)))
  clear hc3 h1 h2 h3 h4
  go_wp2_with fail
  go_ret
  obtain ⟨h1, h2, h3, h4⟩ := HE.out
  obtain ⟨q1, q2⟩ := HS.out ss h1
  exact ⟨s, rfl, sortI ss, h2, sortI_rise q1, fun y => by rw [(sortI_perm ss).mem_iff]; exact q2 y, fun k hk => Nat.le_trans HB.out.size (h3 k hk), below_tr HB.out h4⟩

end Go.Proofs.YtbgnbaogclnpgaaGreat
