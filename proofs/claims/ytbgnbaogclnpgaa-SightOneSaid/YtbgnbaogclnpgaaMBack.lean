/-
  slices.Backward over numbers, and the iterator that it hands out: walked (stage 12).
-/
import Derived.Test.YtbgnbaogclnpgaaMRng
import Derived.Test.YtbgnbaogclnpgaaHMem
import Derived.Test.YtbgnbaogclnpgaaYIter
namespace Go.Proofs.Ytbgnbaogclnpgaa
open Go.RowKit
set_option linter.unusedVariables false

def encB (x : Nat × Int) : Array Value := #[.int .i64 x.1, .int .i64 x.2]

/-- What has been handed out behind k turns. -/
def bk (L : List Int) (k : Nat) : List (Nat × Int) := (List.range k).map fun j => (L.length - 1 - j, L.getD (L.length - 1 - j) 0)
theorem bk_next (L : List Int) (k : Nat) : bk L (k + 1) = bk L k ++ [(L.length - 1 - k, L.getD (L.length - 1 - k) 0)] := by
  unfold bk
  rw [List.range_succ, List.map_append]
  rfl
theorem bk_len (L : List Int) (k : Nat) : (bk L k).length = k := by unfold bk; simp
theorem bk_map (L : List Int) {k : Nat} (hk : k ≤ L.length) : (bk L k).map Prod.snd = L.reverse.take k := by
  apply List.ext_getElem?
  intro i
  by_cases hi : i < k
  · unfold bk
    rw [List.map_map, List.getElem?_map, List.getElem?_range hi, List.getElem?_take_of_lt hi, List.getElem?_reverse (by omega)]
    simp only [Option.map_some, Function.comp]
    have h1 : L.length - 1 - i < L.length := by omega
    rw [List.getElem?_eq_getElem h1]
    simp [h1]
  · rw [List.getElem?_eq_none (by rw [List.length_map, bk_len]; omega), List.getElem?_eq_none (by rw [List.length_take]; omega)]

def backV (e : Nat) : Value := .func (.func 65) #[] #[.pointer (some ⟨e, 0, none⟩)]

set_option maxRecDepth 100000 in
theorem back_is (w : World) (s : Value) (hs : ∃ a n c, s = .slice a n c) : Calls Try.prog 55 #[s] w fun x w' => x = .returned (backV w.heap.size) ∧ Lit w' w.heap.size 35 [s] ∧ Below w.heap.size w w' := by
  have l0 := Lit.new w 35 [s]
  have b0 := Below.allocs w (.cells #[s] 35)
  have HC := Lib.hid (And.intro l0 b0)
  obtain ⟨a, n, c, rfl⟩ := hs
  unfold backV
  clear l0 b0
  go_enter Try.func55, Try.ntmps55
  go_wp2_with fail
  go_ret
  exact ⟨rfl, HC.out.1, HC.out.2⟩

section
attribute [local go_sem] Oper.semAt_some

set_option maxRecDepth 100000 in
set_option maxHeartbeats 4000000 in
theorem backit_is (l n1 e : Nat) (s : Value) (L : List Int) (J Jx K : List (Nat × Int) → World → Prop) (hP : PartyS Try.prog encB (fun p => ∃ k, k ≤ L.length ∧ p = bk L k) l n1 J Jx K) (hK : ∀ p W, K p W → Lit W e 35 [s] ∧ RowI W s L) (W : World) (hJ : J [] W) (hnW : n1 ≤ W.heap.size) :
    CallsIn .wide 1 Try.prog 65 #[.func (.yield l) #[] #[], .pointer (some ⟨e, 0, none⟩)] W fun x W' => (∃ v, x = .returned v) ∧ ∃ S, (S = bk L L.length ∧ J S W') ∨ ((∃ k, k < L.length ∧ S = bk L (k + 1)) ∧ Jx S W') := by
  have mixed : Try.prog.follows Departure.mixedOrders = true := by kernel_rfl
  obtain ⟨n, hn⟩ : ∃ n, L.length = n := ⟨_, rfl⟩
  obtain ⟨k0, k1⟩ := hK _ _ (hP.know hJ)
  obtain ⟨a, c, hsf, hnc, hcm⟩ := k1.form
  rw [hn] at hsf hnc
  subst hsf
  have HP := Lib.hid hP
  have HK := Lib.hid hK
  have HN := Lib.hid hn
  have HJ := Lib.hid hJ
  have HNW := Lib.hid hnW
  have i0 := k0.cell (o := 0) rfl
  have ilt := k0.lt
  have hbn : n ≤ 9223372036854775807 := by unfold maxLen at hcm; omega
  have HW0 : Hid (wrap64 ((n : Int) - 1) = (n : Int) - 1) := Lib.hid (wrOk (by omega))
  rw [hn]
  clear hP hK hn hJ hnW k0 k1 hnc hcm
  refine callsIn_of_wp Try.func65 rfl trivial ?_ rfl
  simp only [Try.ntmps65, List.size_toArray, List.length_cons, List.length_nil, Nat.reduceAdd, Nat.reduceSub, Array.replicate_succ, Array.replicate_zero, List.push_toArray, List.append_toArray, List.nil_append, List.cons_append]
  gi_wp2_with fail
  clear i0 ilt
  try rw [HW0.out]
  gi_loopg [3] n (fun gg s3 wr => ∃ k : Nat, s3 = .int .i64 ((n : Int) - 1 - k) ∧ k ≤ n ∧ n - k ≤ gg ∧ Hid (J (bk L k) wr) ∧ Hid (n1 ≤ wr.heap.size))
  case atStart => exact ⟨0, by simp, Nat.zero_le _, by omega, HJ, HNW⟩
  case round =>
    obtain ⟨k, rfl, hkn, hgg, HJ2, HN2⟩ := hrel
    clear HJ HNW
    by_cases hlt : k < n
    · obtain ⟨k0, k1⟩ := HK.out _ _ (HP.out.know HJ2.out)
      obtain ⟨b, c1, e1, -, -, q0, q1, q2⟩ := RowI.at k1 (j := n - 1 - k) (by rw [HN.out]; omega)
      rw [HN.out] at e1
      cases e1
      obtain ⟨j, hj⟩ : ∃ j, n - 1 - k = j := ⟨_, rfl⟩
      have hji : (n : Int) - 1 - k = (j : Int) := by omega
      rw [hji]
      obtain ⟨x, hx⟩ : ∃ x, L.getD j 0 = x := ⟨_, rfl⟩
      have r1 := q1 j (by rw [HN.out]; omega)
      rw [hx] at r1
      have i0 := k0.cell (o := 0) rfl
      have ilt := k0.lt
      have hjn : (j : Int) < (n : Int) := by omega
      have hj0 : (0 : Int) ≤ (j : Int) := by omega
      have hbk := bk_next L k
      rw [HN.out, hj, hx] at hbk
      have hok : ∃ k', k' ≤ L.length ∧ bk L k ++ [(j, x)] = bk L k' := ⟨k + 1, by rw [HN.out]; omega, hbk.symm⟩
      obtain ⟨fn, tmps, assign, body, hy, hR⟩ := HP.out.turn (bk L k) (j, x) wr HN2.out HJ2.out hok
      simp only [encB] at hy
      have HBK := Lib.hid hbk
      have HJJ := Lib.hid (And.intro hlt (And.intro hgg hj))
      have HW1 : Hid (wrap64 ((j : Int) - 1) = (n : Int) - 1 - ((k + 1 : Nat) : Int)) := Lib.hid (by rw [wrOk (by omega)]; omega)
      clear q1 q2 hok hbk hx k0 k1 hji
      gi_wp2_with fail
      refine hR.mono ?_
      rintro e2 w2 ⟨ht, ⟨rfl, hj2⟩ | ⟨rfl, hj2⟩⟩
      · rw [← HBK.out] at hj2
        have HJ3 := Lib.hid hj2
        have HN3 := Lib.hid (Nat.le_trans HN2.out ht.size)
        clear hR hy ht hj2 i0 ilt r1 q0 HJ2 HN2
        gi_wp2_with fail
        gi_roundg (n - (k + 1))
        case measure => omega
        case rel => exact ⟨k + 1, by first | rw [HW1.out] | (rw [Value.int.injEq]; exact ⟨rfl, by omega⟩), by omega, Nat.le_refl _, HJ3, HN3⟩
      · rw [← HBK.out] at hj2
        have HJ3 := Lib.hid hj2
        clear hR hy ht hj2 i0 ilt r1 q0 HJ2 HN2
        gi_wp2_with fail
        refine bodyPost_ret (results_none rfl _ _ _) rfl ?_
        exact ⟨⟨_, rfl⟩, _, .inr ⟨⟨k, by have := HJJ.out.1; have := HN.out; omega, rfl⟩, HJ3.out⟩⟩
    · obtain rfl : k = n := by omega
      have hneg : ¬ (0 : Int) ≤ (k : Int) - 1 - (k : Int) := by omega
      gi_wp2_with fail
      go_end0
      exact ⟨⟨_, rfl⟩, _, .inl ⟨rfl, HJ2.out⟩⟩
end

end Go.Proofs.Ytbgnbaogclnpgaa
