/-
  The law KeySet, walked.
-/
import Derived.Test.YtenpjfkiehcjlaaKApp
import Derived.Test.YtenpjfkiehcjlaaERX
namespace Go.Proofs.Ytenpjfkiehcjlaa
open Go.RowKit

theorem any_next {l : List Int} {j : Nat} {y i : Int} (h : l[j]? = some y) : ((l.take (j + 1)).any fun y => y == i) = (((l.take j).any fun y => y == i) || (y == i)) := by
  rw [List.take_add_one, h, List.any_append]
  simp

theorem at_num (x : Int) (n : Nat) (h : n ≤ 60) : ∃ t : Nat, wrap64 ((IntKind.u64.wrap x).tmod ((n : Int) + 1)) = (t : Int) ∧ t ≤ n := by
  have h0 : 0 ≤ IntKind.u64.wrap x := by simp only [IntKind.wrap, IntKind.signed, IntKind.bits]; simp; omega
  have h1 := Int.tmod_nonneg ((n : Int) + 1) h0
  have h2 := Int.tmod_lt_of_pos (IntKind.u64.wrap x) (b := (n : Int) + 1) (by omega)
  generalize (IntKind.u64.wrap x).tmod ((n : Int) + 1) = r at h1 h2 ⊢
  refine ⟨r.toNat, ?_, by omega⟩
  unfold wrap64
  omega

/-- What Set hands out: a new slice of the values X. -/
def SetR (n : Nat) (X : List Val) (w : World) (v : Value) : Prop := ∃ g cap, v = .slice (some ⟨g, 0, none⟩) n cap ∧ n ≤ cap ∧ cap ≤ maxLen ∧ Own w g X
def SetT (n : Nat) (X : List Val) (w : World) (v : Value) : Prop := ∃ s, v = .tuple #[s, .int .i64 0] ∧ SetR n X w s

theorem SetR.below {n : Nat} {X : List Val} {w w' : World} {v : Value} (h : SetR n X w v) (hb : Below w.heap.size w w') : SetR n X w' v := by
  obtain ⟨g, cap, e, h1, h2, h3⟩ := h; exact ⟨g, cap, e, h1, h2, h3.below hb⟩
theorem SetT.below {n : Nat} {X : List Val} {w w' : World} {v : Value} (h : SetT n X w v) (hb : Below w.heap.size w w') : SetT n X w' v := by
  obtain ⟨s, e, h1⟩ := h; exact ⟨s, e, h1.below hb⟩

theorem set_of (a a' a2 : Option Addr) (c c' c2 n k : Nat) (l : List Val) (cs : List Int) (vs : List Val) (X : List Val) (hn : l.length = n) (hk : cs.length = k) (hm : vs.length = k) (hs : k ≤ 1000000) (ht : n ≤ 1000000) (hv : mayC cs n = true) (hX : setL l cs vs = X) (w : World) (h1 : SlL w a c l) (h2 : SlI w a' c' cs) (h3 : SlL w a2 c2 vs) :
    Calls Try.prog 7 #[.slice a n c, .slice a' k c', .slice a2 k c2] w fun e w' => ∃ v, e = .returned v ∧ Below w.heap.size w w' ∧ SetT n X w' v := by
  refine (set_is a a' a2 c c' c2 n k l cs vs hn hk hm hs ht hv w h1 h2 h3).mono ?_
  rintro e w' ⟨g, cap, rfl, hc, hm, _, hO, hb⟩
  rw [hX] at hO
  exact ⟨_, rfl, hb, _, rfl, g, cap, rfl, hc, hm, hO⟩

theorem not_in {l : List Int} {i : Int} (h : (l.any fun y => y == i) = false) : i ∉ l := by
  intro hi
  have := List.any_eq_false.mp h i hi
  simp at this

set_option maxRecDepth 100000 in
set_option maxHeartbeats 8000000 in
theorem set_1 (a0 : Option Addr) (c0 n0 : Nat) (l0 : List Val) (a1 : Option Addr) (c1 n1 : Nat) (l1 : List Int) (a2 : Option Addr) (c2 n2 : Nat) (l2 : List Val) (x3 : Int) (hn0 : l0.length = n0) (hn1 : l1.length = n1) (hn2 : l2.length = n2) (hx3 : I64 x3) (w : World) (hs0 : SlL w a0 c0 l0) (hs1 : SlI w a1 c1 l1) (hs2 : SlL w a2 c2 l2) (hz0 : longB l0 = true) :
    Calls Try.prog 4 #[.slice a0 n0 c0, .slice a1 n1 c1, .slice a2 n2 c2, .int .i64 x3] w fun e w' => e = .returned (.bool true) ∧ Below w.heap.size w w' := by
  have B1 : Hid (Below w.heap.size w w) := Lib.hid (Below.refl _ _)
  have HA0 := Lib.hid hs0
  have HA1 := Lib.hid hs1
  have HA2 := Lib.hid hs2
  have HN0 := Lib.hid hn0
  have HN1 := Lib.hid hn1
  have HN2 := Lib.hid hn2
  have HX3 := Lib.hid hx3
  have HZ0 := Lib.hid hz0
  clear hs0 hs1 hs2 hn0 hn1 hn2 hx3 hz0
  go_enter Try.func4, Try.ntmps4
  have hcon := long_is a0 c0 n0 l0 true HN0.out HZ0.out _ (HA0.out.below B1.out)
  go_wp2_with fail
  refine (show Calls Try.prog _ _ _ _ from hcon).mono ?_
  rintro e w1 ⟨rfl, hb1⟩
  have B2 := Lib.hid (below_tr B1.out hb1)
  clear B1
  clear hcon hb1
  have hcon := awake_is w1
  go_wp2_with fail
  refine (show Calls Try.prog _ _ _ _ from hcon).mono ?_
  rintro e w2 ⟨rfl, hb2⟩
  have B3 := Lib.hid (below_tr B2.out hb2)
  clear B2
  clear hcon hb2
  go_wp2_with fail
  go_ret
  exact ⟨rfl, B3.out⟩

set_option maxRecDepth 100000 in
set_option maxHeartbeats 8000000 in
theorem set_2 (a0 : Option Addr) (c0 n0 : Nat) (l0 : List Val) (a1 : Option Addr) (c1 n1 : Nat) (l1 : List Int) (a2 : Option Addr) (c2 n2 : Nat) (l2 : List Val) (x3 : Int) (hn0 : l0.length = n0) (hn1 : l1.length = n1) (hn2 : l2.length = n2) (hx3 : I64 x3) (w : World) (hs0 : SlL w a0 c0 l0) (hs1 : SlI w a1 c1 l1) (hs2 : SlL w a2 c2 l2) (hz0 : longB l0 = false) (hz2 : longB l2 = true) :
    Calls Try.prog 4 #[.slice a0 n0 c0, .slice a1 n1 c1, .slice a2 n2 c2, .int .i64 x3] w fun e w' => e = .returned (.bool true) ∧ Below w.heap.size w w' := by
  have B1 : Hid (Below w.heap.size w w) := Lib.hid (Below.refl _ _)
  have HA0 := Lib.hid hs0
  have HA1 := Lib.hid hs1
  have HA2 := Lib.hid hs2
  have HN0 := Lib.hid hn0
  have HN1 := Lib.hid hn1
  have HN2 := Lib.hid hn2
  have HX3 := Lib.hid hx3
  have HZ0 := Lib.hid hz0
  have HZ2 := Lib.hid hz2
  clear hs0 hs1 hs2 hn0 hn1 hn2 hx3 hz0 hz2
  go_enter Try.func4, Try.ntmps4
  have hcon := long_is a0 c0 n0 l0 false HN0.out HZ0.out _ (HA0.out.below B1.out)
  go_wp2_with fail
  refine (show Calls Try.prog _ _ _ _ from hcon).mono ?_
  rintro e w1 ⟨rfl, hb1⟩
  have B2 := Lib.hid (below_tr B1.out hb1)
  clear B1
  clear hcon hb1
  have hcon := long_is a2 c2 n2 l2 true HN2.out HZ2.out _ (HA2.out.below B2.out)
  go_wp2_with fail
  refine (show Calls Try.prog _ _ _ _ from hcon).mono ?_
  rintro e w2 ⟨rfl, hb2⟩
  have B3 := Lib.hid (below_tr B2.out hb2)
  clear B2
  clear hcon hb2
  have hcon := awake_is w2
  go_wp2_with fail
  refine (show Calls Try.prog _ _ _ _ from hcon).mono ?_
  rintro e w3 ⟨rfl, hb3⟩
  have B4 := Lib.hid (below_tr B3.out hb3)
  clear B3
  clear hcon hb3
  go_wp2_with fail
  go_ret
  exact ⟨rfl, B4.out⟩

set_option maxRecDepth 100000 in
set_option maxHeartbeats 8000000 in
theorem set_3 (a0 : Option Addr) (c0 n0 : Nat) (l0 : List Val) (a1 : Option Addr) (c1 n1 : Nat) (l1 : List Int) (a2 : Option Addr) (c2 n2 : Nat) (l2 : List Val) (x3 : Int) (hn0 : l0.length = n0) (hn1 : l1.length = n1) (hn2 : l2.length = n2) (hx3 : I64 x3) (w : World) (hs0 : SlL w a0 c0 l0) (hs1 : SlI w a1 c1 l1) (hs2 : SlL w a2 c2 l2) (hz0 : longB l0 = false) (hz2 : longB l2 = false) (h60 : 60 < n1) :
    Calls Try.prog 4 #[.slice a0 n0 c0, .slice a1 n1 c1, .slice a2 n2 c2, .int .i64 x3] w fun e w' => e = .returned (.bool true) ∧ Below w.heap.size w w' := by
  have B1 : Hid (Below w.heap.size w w) := Lib.hid (Below.refl _ _)
  have HA0 := Lib.hid hs0
  have HA1 := Lib.hid hs1
  have HA2 := Lib.hid hs2
  have HN0 := Lib.hid hn0
  have HN1 := Lib.hid hn1
  have HN2 := Lib.hid hn2
  have HX3 := Lib.hid hx3
  have HZ0 := Lib.hid hz0
  have HZ2 := Lib.hid hz2
  clear hs0 hs1 hs2 hn0 hn1 hn2 hx3 hz0 hz2
  have h60z : 60 < (n1 : Int) := by omega
  go_enter Try.func4, Try.ntmps4
  have hcon := long_is a0 c0 n0 l0 false HN0.out HZ0.out _ (HA0.out.below B1.out)
  go_wp2_with fail
  refine (show Calls Try.prog _ _ _ _ from hcon).mono ?_
  rintro e w1 ⟨rfl, hb1⟩
  have B2 := Lib.hid (below_tr B1.out hb1)
  clear B1
  clear hcon hb1
  have hcon := long_is a2 c2 n2 l2 false HN2.out HZ2.out _ (HA2.out.below B2.out)
  go_wp2_with fail
  refine (show Calls Try.prog _ _ _ _ from hcon).mono ?_
  rintro e w2 ⟨rfl, hb2⟩
  have B3 := Lib.hid (below_tr B2.out hb2)
  clear B2
  clear hcon hb2
  have hcon := awake_is w2
  go_wp2_with fail
  refine (show Calls Try.prog _ _ _ _ from hcon).mono ?_
  rintro e w3 ⟨rfl, hb3⟩
  have B4 := Lib.hid (below_tr B3.out hb3)
  clear B3
  clear hcon hb3
  go_wp2_with fail
  go_ret
  exact ⟨rfl, B4.out⟩

set_option maxRecDepth 100000 in
set_option maxHeartbeats 8000000 in
theorem set_4 (a0 : Option Addr) (c0 n0 : Nat) (l0 : List Val) (a1 : Option Addr) (c1 n1 : Nat) (l1 : List Int) (a2 : Option Addr) (c2 n2 : Nat) (l2 : List Val) (x3 : Int) (hn0 : l0.length = n0) (hn1 : l1.length = n1) (hn2 : l2.length = n2) (hx3 : I64 x3) (w : World) (hs0 : SlL w a0 c0 l0) (hs1 : SlI w a1 c1 l1) (hs2 : SlL w a2 c2 l2) (hz0 : longB l0 = false) (hz2 : longB l2 = false) (h60 : n1 ≤ 60) (hm : mayC l1 n0 = false) :
    Calls Try.prog 4 #[.slice a0 n0 c0, .slice a1 n1 c1, .slice a2 n2 c2, .int .i64 x3] w fun e w' => e = .returned (.bool true) ∧ Below w.heap.size w w' := by
  have B1 : Hid (Below w.heap.size w w) := Lib.hid (Below.refl _ _)
  have HA0 := Lib.hid hs0
  have HA1 := Lib.hid hs1
  have HA2 := Lib.hid hs2
  have HN0 := Lib.hid hn0
  have HN1 := Lib.hid hn1
  have HN2 := Lib.hid hn2
  have HX3 := Lib.hid hx3
  have HZ0 := Lib.hid hz0
  have HZ2 := Lib.hid hz2
  have HM := Lib.hid hm
  clear hs0 hs1 hs2 hn0 hn1 hn2 hx3 hz0 hz2 hm
  have h60z : ¬ 60 < (n1 : Int) := by omega
  have hb0 : n0 ≤ 60 := by rw [← HN0.out]; exact (long_not HZ0.out).1
  have hb2 : n2 ≤ 60 := by rw [← HN2.out]; exact (long_not HZ2.out).1
  go_enter Try.func4, Try.ntmps4
  have hcon := long_is a0 c0 n0 l0 false HN0.out HZ0.out _ (HA0.out.below B1.out)
  go_wp2_with fail
  refine (show Calls Try.prog _ _ _ _ from hcon).mono ?_
  rintro e w1 ⟨rfl, hb1⟩
  have B2 := Lib.hid (below_tr B1.out hb1)
  clear B1
  clear hcon hb1
  have hcon := long_is a2 c2 n2 l2 false HN2.out HZ2.out _ (HA2.out.below B2.out)
  go_wp2_with fail
  refine (show Calls Try.prog _ _ _ _ from hcon).mono ?_
  rintro e w2 ⟨rfl, hb2⟩
  have B3 := Lib.hid (below_tr B2.out hb2)
  clear B2
  clear hcon hb2
  have hcon := awake_is w2
  go_wp2_with fail
  refine (show Calls Try.prog _ _ _ _ from hcon).mono ?_
  rintro e w3 ⟨rfl, hb3⟩
  have B4 := Lib.hid (below_tr B3.out hb3)
  clear B3
  clear hcon hb3
  have hcon := set_no1 a0 a1 a2 c0 c1 c2 n0 n1 n2 l1 HN1.out (by omega) HM.out _ (HA1.out.below B4.out)
  go_wp2_with fail
  refine (show Calls Try.prog _ _ _ _ from hcon).mono ?_
  rintro e w4 ⟨rfl, hb4⟩
  have B5 := Lib.hid (below_tr B4.out hb4)
  clear B4
  clear hcon hb4
  have hcon := may_is a1 c1 n1 l1 (n0 : Int) false HN1.out (by omega) (by rw [Int.toNat_natCast]; exact HM.out) _ (HA1.out.below B5.out)
  go_wp2_with fail
  refine (show Calls Try.prog _ _ _ _ from hcon).mono ?_
  rintro e w5 ⟨rfl, hb5⟩
  have B6 := Lib.hid (below_tr B5.out hb5)
  clear B5
  clear hcon hb5
  go_wp2_with fail
  go_ret
  exact ⟨rfl, B6.out⟩

set_option maxRecDepth 100000 in
set_option maxHeartbeats 8000000 in
theorem set_5 (a0 : Option Addr) (c0 n0 : Nat) (l0 : List Val) (a1 : Option Addr) (c1 n1 : Nat) (l1 : List Int) (a2 : Option Addr) (c2 n2 : Nat) (l2 : List Val) (x3 : Int) (hn0 : l0.length = n0) (hn1 : l1.length = n1) (hn2 : l2.length = n2) (hx3 : I64 x3) (w : World) (hs0 : SlL w a0 c0 l0) (hs1 : SlI w a1 c1 l1) (hs2 : SlL w a2 c2 l2) (hz0 : longB l0 = false) (hz2 : longB l2 = false) (h60 : n1 ≤ 60) (hm : mayC l1 n0 = true) (hne : n2 ≠ n1) :
    Calls Try.prog 4 #[.slice a0 n0 c0, .slice a1 n1 c1, .slice a2 n2 c2, .int .i64 x3] w fun e w' => e = .returned (.bool true) ∧ Below w.heap.size w w' := by
  have B1 : Hid (Below w.heap.size w w) := Lib.hid (Below.refl _ _)
  have HA0 := Lib.hid hs0
  have HA1 := Lib.hid hs1
  have HA2 := Lib.hid hs2
  have HN0 := Lib.hid hn0
  have HN1 := Lib.hid hn1
  have HN2 := Lib.hid hn2
  have HX3 := Lib.hid hx3
  have HZ0 := Lib.hid hz0
  have HZ2 := Lib.hid hz2
  have HM := Lib.hid hm
  clear hs0 hs1 hs2 hn0 hn1 hn2 hx3 hz0 hz2 hm
  have h60z : ¬ 60 < (n1 : Int) := by omega
  have hb0 : n0 ≤ 60 := by rw [← HN0.out]; exact (long_not HZ0.out).1
  have hb2 : n2 ≤ 60 := by rw [← HN2.out]; exact (long_not HZ2.out).1
  have hnez : ¬ (n1 : Int) = (n2 : Int) := by omega
  go_enter Try.func4, Try.ntmps4
  have hcon := long_is a0 c0 n0 l0 false HN0.out HZ0.out _ (HA0.out.below B1.out)
  go_wp2_with fail
  refine (show Calls Try.prog _ _ _ _ from hcon).mono ?_
  rintro e w1 ⟨rfl, hb1⟩
  have B2 := Lib.hid (below_tr B1.out hb1)
  clear B1
  clear hcon hb1
  have hcon := long_is a2 c2 n2 l2 false HN2.out HZ2.out _ (HA2.out.below B2.out)
  go_wp2_with fail
  refine (show Calls Try.prog _ _ _ _ from hcon).mono ?_
  rintro e w2 ⟨rfl, hb2⟩
  have B3 := Lib.hid (below_tr B2.out hb2)
  clear B2
  clear hcon hb2
  have hcon := awake_is w2
  go_wp2_with fail
  refine (show Calls Try.prog _ _ _ _ from hcon).mono ?_
  rintro e w3 ⟨rfl, hb3⟩
  have B4 := Lib.hid (below_tr B3.out hb3)
  clear B3
  clear hcon hb3
  have hcon := set_no2 a0 a1 a2 c0 c1 c2 n0 n1 n2 l1 HN1.out (by omega) HM.out hne _ (HA1.out.below B4.out)
  go_wp2_with fail
  refine (show Calls Try.prog _ _ _ _ from hcon).mono ?_
  rintro e w4 ⟨rfl, hb4⟩
  have B5 := Lib.hid (below_tr B4.out hb4)
  clear B4
  clear hcon hb4
  have hcon := may_is a1 c1 n1 l1 (n0 : Int) true HN1.out (by omega) (by rw [Int.toNat_natCast]; exact HM.out) _ (HA1.out.below B5.out)
  go_wp2_with fail
  refine (show Calls Try.prog _ _ _ _ from hcon).mono ?_
  rintro e w5 ⟨rfl, hb5⟩
  have B6 := Lib.hid (below_tr B5.out hb5)
  clear B5
  clear hcon hb5
  go_wp2_with fail
  go_ret
  exact ⟨rfl, B6.out⟩

set_option maxRecDepth 100000 in
set_option maxHeartbeats 8000000 in
theorem set_6 (n2 : Nat) (a0 : Option Addr) (c0 n0 : Nat) (l0 : List Val) (a1 : Option Addr) (c1 : Nat) (l1 : List Int) (a2 : Option Addr) (c2 : Nat) (l2 : List Val) (x3 : Int) (hn0 : l0.length = n0) (hn1 : l1.length = n2) (hn2 : l2.length = n2) (hx3 : I64 x3) (w : World) (hs0 : SlL w a0 c0 l0) (hs1 : SlI w a1 c1 l1) (hs2 : SlL w a2 c2 l2) (hz0 : longB l0 = false) (hz2 : longB l2 = false) (h60 : n2 ≤ 60) (hm : mayC l1 n0 = true) :
    Calls Try.prog 4 #[.slice a0 n0 c0, .slice a1 n2 c1, .slice a2 n2 c2, .int .i64 x3] w fun e w' => e = .returned (.bool true) ∧ Below w.heap.size w w' := by
  have B1 : Hid (Below w.heap.size w w) := Lib.hid (Below.refl _ _)
  have HA0 := Lib.hid hs0
  have HA1 := Lib.hid hs1
  have HA2 := Lib.hid hs2
  have HN0 := Lib.hid hn0
  have HN1 := Lib.hid hn1
  have HN2 := Lib.hid hn2
  have HX3 := Lib.hid hx3
  have HZ0 := Lib.hid hz0
  have HZ2 := Lib.hid hz2
  have HM := Lib.hid hm
  clear hs0 hs1 hs2 hn0 hn1 hn2 hx3 hz0 hz2 hm
  have HMI : Hid (∀ i ∈ l1, 0 ≤ i ∧ i < l0.length) := Lib.hid (by rw [HN0.out]; exact mayC_in HM.out)
  have HND : Hid l1.Nodup := Lib.hid ((mayC_iff _ _).mp HM.out).2.2
  obtain ⟨S, hS⟩ : ∃ S, setL l0 l1 l2 = S := ⟨_, rfl⟩
  have HSN : Hid (S.length = n0) := Lib.hid (by rw [← hS, length_setL]; exact HN0.out)
  have HSW : Hid (∀ x ∈ S, x.wf) := Lib.hid (by rw [← hS]; exact setL_wf HA0.out.wf HA2.out.wf)
  have HOF : Hid (ofL Val.zero S l1 = l2) := Lib.hid (by rw [← hS]; exact of_setL Val.zero l1 l2 l0 (by rw [HN1.out, HN2.out]) HMI.out HND.out)
  have HAG : Hid (setL l0 l1 (ofL Val.zero l0 l1) = l0) := Lib.hid (set_own Val.zero l1 l0 HMI.out)
  have HSS := Lib.hid hS
  have HW0 := Lib.hid HA0.out.wf
  have HW2 := Lib.hid HA2.out.wf
  have hb0 : n0 ≤ 60 := by rw [← HN0.out]; exact (long_not HZ0.out).1
  have h60z : ¬ 60 < (n2 : Int) := by omega
  clear hS
  go_enter Try.func4, Try.ntmps4
  have hcon := long_is a0 c0 n0 l0 false HN0.out HZ0.out _ (HA0.out.below B1.out)
  go_wp2_with fail
  refine (show Calls Try.prog _ _ _ _ from hcon).mono ?_
  rintro e w1 ⟨rfl, hb1⟩
  have B2 := Lib.hid (below_tr B1.out hb1)
  clear B1
  clear hcon hb1
  have hcon := long_is a2 c2 n2 l2 false HN2.out HZ2.out _ (HA2.out.below B2.out)
  go_wp2_with fail
  refine (show Calls Try.prog _ _ _ _ from hcon).mono ?_
  rintro e w2 ⟨rfl, hb2⟩
  have B3 := Lib.hid (below_tr B2.out hb2)
  clear B2
  clear hcon hb2
  have hcon := awake_is w2
  go_wp2_with fail
  refine (show Calls Try.prog _ _ _ _ from hcon).mono ?_
  rintro e w3 ⟨rfl, hb3⟩
  have B4 := Lib.hid (below_tr B3.out hb3)
  clear B3
  clear hcon hb3
  have hcon := set_is a0 a1 a2 c0 c1 c2 n0 n2 l0 l1 l2 HN0.out HN1.out HN2.out (by omega) (by omega) HM.out _ (HA0.out.below B4.out) (HA1.out.below B4.out) (HA2.out.below B4.out)
  rw [HSS.out] at hcon
  go_wp2_with fail
  refine (show Calls Try.prog _ _ _ _ from hcon).mono ?_
  rintro e w4 ⟨gS, capS, rfl, hnS, hmS, _, hO, hb4⟩
  have B5 := Lib.hid (below_tr B4.out hb4)
  clear B4
  clear hcon hb4
  have S_n4 := Lib.hid hO
  clear hO
  have hcon := may_is a1 c1 n2 l1 (n0 : Int) true HN1.out (by omega) (by rw [Int.toNat_natCast]; exact HM.out) _ (HA1.out.below B5.out)
  go_wp2_with fail
  refine (show Calls Try.prog _ _ _ _ from hcon).mono ?_
  rintro e w5 ⟨rfl, hb5⟩
  have S_6 := Lib.hid (S_n4.out.below hb5)
  have B6 := Lib.hid (below_tr B5.out hb5)
  clear S_n4 B5
  clear hcon hb5
  have hcon := of_is (some ⟨gS, 0, none⟩) a1 capS c1 n0 n2 S l1 HSN.out HN1.out (by omega) HM.out _ (S_6.out.sl (by rw [HSN.out]; exact hnS) hmS HSW.out) (HA1.out.below B6.out)
  rw [HOF.out] at hcon
  go_wp2_with fail
  refine (show Calls Try.prog _ _ _ _ from hcon).mono ?_
  rintro e w6 ⟨gk, rfl, _, hO, hb6⟩
  have S_7 := Lib.hid (S_6.out.below hb6)
  have B7 := Lib.hid (below_tr B6.out hb6)
  clear S_6 B6
  clear hcon hb6
  have KK_n6 := Lib.hid hO
  clear hO
  have hcon := of_is a0 a1 c0 c1 n0 n2 l0 l1 HN0.out HN1.out (by omega) HM.out _ (HA0.out.below B7.out) (HA1.out.below B7.out)
  go_wp2_with fail
  refine (show Calls Try.prog _ _ _ _ from hcon).mono ?_
  rintro e w7 ⟨go, rfl, _, hO, hb7⟩
  have S_8 := Lib.hid (S_7.out.below hb7)
  have KK_8 := Lib.hid (KK_n6.out.below hb7)
  have B8 := Lib.hid (below_tr B7.out hb7)
  clear S_7 KK_n6 B7
  clear hcon hb7
  have OW_n7 := Lib.hid hO
  clear hO
  have hcon := set_is a0 a1 (some ⟨go, 0, none⟩) c0 c1 n2 n0 n2 l0 l1 (ofL Val.zero l0 l1) HN0.out HN1.out (by rw [length_ofL]; exact HN1.out) (by omega) (by omega) HM.out _ (HA0.out.below B8.out) (HA1.out.below B8.out) (OW_n7.out.slk (k := n2) (by rw [length_ofL]; exact HN1.out) (Nat.le_refl _) (by omega) (ofL_wf HW0.out))
  rw [HAG.out] at hcon
  go_wp2_with fail
  refine (show Calls Try.prog _ _ _ _ from hcon).mono ?_
  rintro e w8 ⟨ga, capG, rfl, hnG, hmG, _, hO, hb8⟩
  have S_9 := Lib.hid (S_8.out.below hb8)
  have KK_9 := Lib.hid (KK_8.out.below hb8)
  have OW_9 := Lib.hid (OW_n7.out.below hb8)
  have B9 := Lib.hid (below_tr B8.out hb8)
  clear S_8 KK_8 OW_n7 B8
  clear hcon hb8
  have AG_n8 := Lib.hid hO
  clear hO
  clear OW_9
  have hcon := same4_is (some ⟨gk, 0, none⟩) a2 n2 c2 n2 n2 l2 l2 true HN2.out HN2.out (by simp) _ (KK_9.out.slk (k := n2) HN2.out (Nat.le_refl _) (by omega) HW2.out) (HA2.out.below B9.out)
  go_wp2_with fail
  refine (show Calls Try.prog _ _ _ _ from hcon).mono ?_
  rintro e w9 ⟨rfl, hb9⟩
  have S_10 := Lib.hid (S_9.out.below hb9)
  have KK_10 := Lib.hid (KK_9.out.below hb9)
  have AG_10 := Lib.hid (AG_n8.out.below hb9)
  have B10 := Lib.hid (below_tr B9.out hb9)
  clear S_9 KK_9 AG_n8 B9
  clear hcon hb9
  clear KK_10
  have hcon := same4_is (some ⟨ga, 0, none⟩) a0 capG c0 n0 n0 l0 l0 true HN0.out HN0.out (by simp) _ (AG_10.out.sl (by rw [HN0.out]; exact hnG) hmG HW0.out) (HA0.out.below B10.out)
  go_wp2_with fail
  refine (show Calls Try.prog _ _ _ _ from hcon).mono ?_
  rintro e w10 ⟨rfl, hb10⟩
  have S_11 := Lib.hid (S_10.out.below hb10)
  have AG_11 := Lib.hid (AG_10.out.below hb10)
  have B11 := Lib.hid (below_tr B10.out hb10)
  clear S_10 AG_10 B10
  clear hcon hb10
  clear AG_11
  have R_r12 := Lib.hid (HA0.out.below B11.out)
  have C_r12 := Lib.hid (HA1.out.below B11.out)
  have K_r12 := Lib.hid (HA2.out.below B11.out)
  have S_r12 := Lib.hid (S_11.out)
  have HB12 := B11
  clear HA0 HA1 HA2 S_11 B11
  have B13 : Hid (Below w10.heap.size w10 w10) := Lib.hid (Below.refl _ _)
  go_wp2_with fail
  go_loopg [17, 18, 19] n0 (fun gg s17 _ _ wr => ∃ i : Nat, s17 = .int .i64 i ∧ i ≤ n0 ∧ n0 - i ≤ gg ∧ Hid (Below w10.heap.size w10 wr))
  case atStart => exact ⟨0, rfl, Nat.zero_le _, by omega, B13⟩
  case round =>
    obtain ⟨i, rfl, hin, hgg, BW⟩ := hrel
    by_cases hlt : i < n0
    · have hltz : (i : Int) < (n0 : Int) := by omega
      have z1 : ¬ n0 ≤ i := by omega
      go_wp2_with fail
      go_loopg [18, 19] n2 (fun gg2 s18 s19 wq => ∃ (j : Nat) (b : Bool), s18 = .bool b ∧ s19 = .int .i64 j ∧ j ≤ n2 ∧ n2 - j ≤ gg2 ∧ Hid (((l1.take j).any fun y => y == (i : Int)) = b) ∧ Hid (wq = wr))
      case atStart => exact ⟨0, false, rfl, rfl, Nat.zero_le _, by omega, Lib.hid rfl, Lib.hid rfl⟩
      case round =>
        obtain ⟨j, b, rfl, rfl, hjn, hgg2, HIN, HQ⟩ := hrel
        obtain rfl := HQ.out
        by_cases hjl : j < n2
        · have hjz : (j : Int) < (n2 : Int) := by omega
          have z2 : ¬ n2 ≤ j := by omega
          obtain ⟨y, hy⟩ : ∃ y, l1[j]? = some y := ⟨l1[j]'(by rw [HN1.out]; exact hjl), by simp⟩
          obtain ⟨b', o', rfl, hc, hb'⟩ := at_i (C_r12.out.below BW.out) hy
          have HNX := Lib.hid (any_next (i := (i : Int)) hy)
          clear hy
          cases b with
          | true =>
            go_wp2_with fail
            go_roundg (n2 - (j + 1))
            case measure => omega
            case rel => exact ⟨j + 1, true, rfl, by go_num, by omega, Nat.le_refl _, Lib.hid (by rw [HNX.out, HIN.out]; rfl), Lib.hid rfl⟩
          | false =>
            obtain ⟨z, hz⟩ : ∃ z, (y == (i : Int)) = z := ⟨_, rfl⟩
            have HZY := Lib.hid hz
            go_wp2_with fail
            go_roundg (n2 - (j + 1))
            case measure => omega
            case rel => exact ⟨j + 1, z, by first | rfl | rw [hz], by go_num, by omega, Nat.le_refl _, Lib.hid (by rw [HNX.out, HIN.out, HZY.out]; rfl), Lib.hid rfl⟩
        · have hjz : ¬ (j : Int) < (n2 : Int) := by omega
          cases b with
          | true =>
            go_wp2_with fail
            go_quiet (fail)
            go_wp2_with fail
            go_roundg (n0 - (i + 1))
            case measure => omega
            case rel => exact ⟨i + 1, by go_num, by omega, Nat.le_refl _, Lib.hid (BW.out.trans ((drewN_below _ _).mono BW.out.size))⟩
          | false =>
            have hni : (i : Int) ∉ l1 := not_in (by have := HIN.out; rw [List.take_of_length_le (by rw [HN1.out]; omega)] at this; exact this)
            obtain ⟨x, hx⟩ := get_is (l := l0) (i := i) (by rw [HN0.out]; exact hlt)
            have hx2 : S[i]? = some x := by rw [← HSS.out, setL_other l1 l2 l0 i (fun a ha => (HMI.out a ha).1) hni]; exact hx
            have hnq := neqv_is x x false (by rw [eqB_iff.mpr rfl]; rfl)
            obtain ⟨e0, e1, e2, e3, e4⟩ := (S_r12.out.below BW.out).get hx2
            obtain ⟨b, o, rfl, d0, d1, d2, d3, d4⟩ := at_l (R_r12.out.below BW.out) hx
            clear hx hx2 hni
            go_wp2_with fail
            go_quiet (fail)
            go_wp2_with fail
            go_roundg (n0 - (i + 1))
            case measure => omega
            case rel => exact ⟨i + 1, by go_num, by omega, Nat.le_refl _, Lib.hid (BW.out.trans ((drewN_below _ _).mono BW.out.size))⟩
    · have hltz : ¬ (i : Int) < (n0 : Int) := by omega
      obtain ⟨t, ht, htn⟩ := at_num x3 n2 h60
      by_cases h0 : t = 0
      · subst h0
        have ht0 : wrap64 ((IntKind.u64.wrap x3).tmod ((n2 : Int) + 1)) = 0 := ht
        clear ht
        go_wp2_with fail
        go_ret
        exact ⟨rfl, (below_tr HB12.out BW.out)⟩
      · by_cases h1 : t = n2
        · subst h1
          have htz : ¬ (t : Int) = 0 := by omega
          go_wp2_with fail
          go_ret
          exact ⟨rfl, (below_tr HB12.out BW.out)⟩
        · have htz : ((t : Int) == 0) = false := by simpa using h0
          have htz1 : ((t : Int) == (n2 : Int)) = false := by simp; omega
          have htp : 0 ≤ (t : Int) := by omega
          have htl : (t : Int) ≤ (n2 : Int) := by omega
          have hne1 : l1 ≠ [] := by rintro rfl; have := HN1.out; simp at this; omega
          have hne2 : l2 ≠ [] := by rintro rfl; have := HN2.out; simp at this; omega
          obtain ⟨b1, o1, rfl, _⟩ := (C_r12.out.below BW.out).at' hne1
          obtain ⟨b2, o2, rfl, _⟩ := (K_r12.out.below BW.out).at' hne2
          have hcc := (C_r12.out.below BW.out).lc
          have hck := (K_r12.out.below BW.out).lc
          rw [HN1.out] at hcc
          rw [HN2.out] at hck
          have hct1 : ¬ c1 = t := by omega
          have hct2 : ¬ c2 = t := by omega
          have htc1 : (t : Int) ≤ (c1 : Int) := by omega
          have htc2 : (t : Int) ≤ (c2 : Int) := by omega
          go_wp2_with fail
          have hdrA := below_drw wr
          try simp only [List.append_eq, List.cons_append, List.nil_append]
          refine RX.wp_region_plan (fun w w' => Below w.heap.size w w') [.it (.slice a0 n0 c0), .it (.slice (some ⟨b1, o1, none⟩) n2 c1), .it (.int .i64 (t : Int)), .it (.slice (some ⟨b1, o1, none⟩) t c1), .it (.slice (some ⟨b2, o2, none⟩) n2 c2), .it (.int .i64 (t : Int)), .it (.slice (some ⟨b2, o2, none⟩) t c2), .of (SetT n0 (setL l0 (l1.take t) (l2.take t))), .of (SetT n0 (setL l0 (l1.take t) (l2.take t))), .of (SetR n0 (setL l0 (l1.take t) (l2.take t))), .it (.int .i64 0), .of (SetR n0 (setL l0 (l1.take t) (l2.take t))), .it (.int .i64 0)] (by kernel_rfl) (by kernel_rfl) (fun _ => Below.refl _ _) (fun _ _ _ => below_tr) ?_
          refine RX.seqP_value (fun _ => Below.refl _ _) _ (by first | rfl | simp) (fun w' hw' hctx => by (go_simp); (try first | with_reducible rfl | simp)) ?_
          simp only [Act.put, List.setIfInBounds_toArray, List.set_cons_zero, List.set_cons_succ]
          refine RX.seqP_value (fun _ => Below.refl _ _) _ (by first | rfl | simp) (fun w' hw' hctx => by (go_simp); (try first | with_reducible rfl | simp)) ?_
          simp only [Act.put, List.setIfInBounds_toArray, List.set_cons_zero, List.set_cons_succ]
          refine RX.seqP_value (fun _ => Below.refl _ _) _ (by first | rfl | simp) (fun w' hw' hctx => by (go_simp); (try first | with_reducible rfl | simp)) ?_
          simp only [Act.put, List.setIfInBounds_toArray, List.set_cons_zero, List.set_cons_succ]
          refine RX.seqP_value (fun _ => Below.refl _ _) _ (by first | rfl | simp) (fun w' hw' hctx => by (go_simp); (try first | with_reducible rfl | simp)) ?_
          simp only [Act.put, List.setIfInBounds_toArray, List.set_cons_zero, List.set_cons_succ]
          refine RX.seqP_value (fun _ => Below.refl _ _) _ (by first | rfl | simp) (fun w' hw' hctx => by (go_simp); (try first | with_reducible rfl | simp)) ?_
          simp only [Act.put, List.setIfInBounds_toArray, List.set_cons_zero, List.set_cons_succ]
          refine RX.seqP_value (fun _ => Below.refl _ _) _ (by first | rfl | simp) (fun w' hw' hctx => by (go_simp); (try first | with_reducible rfl | simp)) ?_
          simp only [Act.put, List.setIfInBounds_toArray, List.set_cons_zero, List.set_cons_succ]
          refine RX.seqP_value (fun _ => Below.refl _ _) _ (by first | rfl | simp) (fun w' hw' hctx => by (go_simp); (try first | with_reducible rfl | simp)) ?_
          simp only [Act.put, List.setIfInBounds_toArray, List.set_cons_zero, List.set_cons_succ]
          refine RX.seqP_callOf (7) #[.slice a0 n0 c0, .slice (some ⟨b1, o1, none⟩) t c1, .slice (some ⟨b2, o2, none⟩) t c2] (SetT n0 (setL l0 (l1.take t) (l2.take t))) (fun w w' v hb h => h.below hb) (by first | rfl | simp) (fun w' hw' hctx => ?_) (fun w' hw' hctx => set_of _ _ _ _ _ _ n0 t l0 (l1.take t) (l2.take t) _ HN0.out (by rw [List.length_take, HN1.out]; omega) (by rw [List.length_take, HN2.out]; omega) (by omega) (by omega) (mayC_take l1 n0 t HM.out (by omega)) rfl w' (R_r12.out.below (BW.out.trans (((below_tr hdrA hw')).mono BW.out.size))) ((C_r12.out.below (BW.out.trans (((below_tr hdrA hw')).mono BW.out.size))).take t) ((K_r12.out.below (BW.out.trans (((below_tr hdrA hw')).mono BW.out.size))).take t)) (fun u7 => ?_)
          · go_simp
          simp only [Act.put, List.setIfInBounds_toArray, List.set_cons_zero, List.set_cons_succ]
          refine RX.seqP_make (SetT n0 (setL l0 (l1.take t) (l2.take t))) (fun w w' v hb h => h.below hb) (by first | rfl | simp) (fun w' hw' hctx => ?_) (fun u8 => ?_)
          · have hq : SetT n0 (setL l0 (l1.take t) (l2.take t)) w' u7 := hctx.1
            exact ⟨_, _, by (go_simp); (try first | with_reducible rfl | rfl), Below.refl _ _, hq⟩
          simp only [Act.put, List.setIfInBounds_toArray, List.set_cons_zero, List.set_cons_succ]
          refine RX.seqP_make (SetR n0 (setL l0 (l1.take t) (l2.take t))) (fun w w' v hb h => h.below hb) (by first | rfl | simp) (fun w' hw' hctx => ?_) (fun u9 => ?_)
          · obtain ⟨s, rfl, hq⟩ : SetT n0 (setL l0 (l1.take t) (l2.take t)) w' u8 := hctx.1
            exact ⟨_, _, by (go_simp); (try first | with_reducible rfl | rfl), Below.refl _ _, hq⟩
          simp only [Act.put, List.setIfInBounds_toArray, List.set_cons_zero, List.set_cons_succ]
          refine RX.seqP_value (fun _ => Below.refl _ _) _ (by first | rfl | simp) (fun w' hw' hctx => ?_) ?_
          · obtain ⟨s, rfl, hq⟩ : SetT n0 (setL l0 (l1.take t) (l2.take t)) w' u8 := hctx.2.1
            go_simp
            try first | with_reducible rfl | simp
          simp only [Act.put, List.setIfInBounds_toArray, List.set_cons_zero, List.set_cons_succ]
          refine RX.seqP_make (SetR n0 (setL l0 (l1.take t) (l2.take t))) (fun w w' v hb h => h.below hb) (by first | rfl | simp) (fun w' hw' hctx => ?_) (fun u11 => ?_)
          · have hq : SetR n0 (setL l0 (l1.take t) (l2.take t)) w' u9 := hctx.1
            exact ⟨_, _, by (go_simp); (try first | with_reducible rfl | rfl), Below.refl _ _, hq⟩
          simp only [Act.put, List.setIfInBounds_toArray, List.set_cons_zero, List.set_cons_succ]
          refine RX.seqP_value (fun _ => Below.refl _ _) _ (by first | rfl | simp) (fun w' hw' hctx => by (go_simp); (try first | with_reducible rfl | simp)) ?_
          simp only [Act.put, List.setIfInBounds_toArray, List.set_cons_zero, List.set_cons_succ]
          refine RX.seqP_nil (fun vA hR hctx _ => ?_)
          have hvA := below_tr hdrA hR
          obtain ⟨gA, capA, rfl, hnA, hmA, hOA⟩ : SetR n0 (setL l0 (l1.take t) (l2.take t)) vA u11 := hctx.1
          clear hctx hR
          have BA := Lib.hid (BW.out.trans (hvA.mono BW.out.size))
          have HOA := Lib.hid hOA
          clear hvA hOA
          go_wp2_with fail
          have hdrC := below_drw vA
          try simp only [List.append_eq, List.cons_append, List.nil_append]
          refine RX.wp_region_plan (fun w w' => Below w.heap.size w w') [.it (.slice (some ⟨gA, 0, none⟩) n0 capA), .it (.slice (some ⟨b1, o1, none⟩) n2 c1), .it (.int .i64 (t : Int)), .it (.slice (some ⟨b1, o1 + t, none⟩) (n2 - t) (c1 - t)), .it (.slice (some ⟨b2, o2, none⟩) n2 c2), .it (.int .i64 (t : Int)), .it (.slice (some ⟨b2, o2 + t * 4, none⟩) (n2 - t) (c2 - t)), .of (SetT n0 S), .of (SetT n0 S), .of (SetR n0 S), .it (.int .i64 0), .of (SetR n0 S), .it (.int .i64 0)] (by kernel_rfl) (by kernel_rfl) (fun _ => Below.refl _ _) (fun _ _ _ => below_tr) ?_
          refine RX.seqP_value (fun _ => Below.refl _ _) _ (by first | rfl | simp) (fun w' hw' hctx => by (go_simp); (try first | with_reducible rfl | simp)) ?_
          simp only [Act.put, List.setIfInBounds_toArray, List.set_cons_zero, List.set_cons_succ]
          refine RX.seqP_value (fun _ => Below.refl _ _) _ (by first | rfl | simp) (fun w' hw' hctx => by (go_simp); (try first | with_reducible rfl | simp)) ?_
          simp only [Act.put, List.setIfInBounds_toArray, List.set_cons_zero, List.set_cons_succ]
          refine RX.seqP_value (fun _ => Below.refl _ _) _ (by first | rfl | simp) (fun w' hw' hctx => by (go_simp); (try first | with_reducible rfl | simp)) ?_
          simp only [Act.put, List.setIfInBounds_toArray, List.set_cons_zero, List.set_cons_succ]
          refine RX.seqP_value (fun _ => Below.refl _ _) _ (by first | rfl | simp) (fun w' hw' hctx => by (go_simp); (try first | with_reducible rfl | simp)) ?_
          simp only [Act.put, List.setIfInBounds_toArray, List.set_cons_zero, List.set_cons_succ]
          refine RX.seqP_value (fun _ => Below.refl _ _) _ (by first | rfl | simp) (fun w' hw' hctx => by (go_simp); (try first | with_reducible rfl | simp)) ?_
          simp only [Act.put, List.setIfInBounds_toArray, List.set_cons_zero, List.set_cons_succ]
          refine RX.seqP_value (fun _ => Below.refl _ _) _ (by first | rfl | simp) (fun w' hw' hctx => by (go_simp); (try first | with_reducible rfl | simp)) ?_
          simp only [Act.put, List.setIfInBounds_toArray, List.set_cons_zero, List.set_cons_succ]
          refine RX.seqP_value (fun _ => Below.refl _ _) _ (by first | rfl | simp) (fun w' hw' hctx => by (go_simp); (try first | with_reducible rfl | simp)) ?_
          simp only [Act.put, List.setIfInBounds_toArray, List.set_cons_zero, List.set_cons_succ]
          refine RX.seqP_callOf (7) #[.slice (some ⟨gA, 0, none⟩) n0 capA, .slice (some ⟨b1, o1 + t, none⟩) (n2 - t) (c1 - t), .slice (some ⟨b2, o2 + t * 4, none⟩) (n2 - t) (c2 - t)] (SetT n0 S) (fun w w' v hb h => h.below hb) (by first | rfl | simp) (fun w' hw' hctx => ?_) (fun w' hw' hctx => set_of _ _ _ _ _ _ n0 (n2 - t) (setL l0 (l1.take t) (l2.take t)) (l1.drop t) (l2.drop t) S (by rw [length_setL]; exact HN0.out) (by rw [List.length_drop, HN1.out]) (by rw [List.length_drop, HN2.out]) (by omega) (by omega) (mayC_drop l1 n0 t HM.out (by rw [HN1.out]; omega)) (by rw [setL_two l0 l1 l2 t (by rw [HN1.out, HN2.out])]; exact HSS.out) w' ((HOA.out.below (below_tr hdrC hw')).sl (by rw [length_setL, HN0.out]; exact hnA) hmA (setL_wf HW0.out (fun x hx => HW2.out x (List.mem_of_mem_take hx)))) ((C_r12.out.below (BA.out.trans (((below_tr hdrC hw')).mono BA.out.size))).drop t (by rw [HN1.out]; omega)) ((K_r12.out.below (BA.out.trans (((below_tr hdrC hw')).mono BA.out.size))).drop t (by rw [HN2.out]; omega))) (fun u7 => ?_)
          · go_simp
          simp only [Act.put, List.setIfInBounds_toArray, List.set_cons_zero, List.set_cons_succ]
          refine RX.seqP_make (SetT n0 S) (fun w w' v hb h => h.below hb) (by first | rfl | simp) (fun w' hw' hctx => ?_) (fun u8 => ?_)
          · have hq : SetT n0 S w' u7 := hctx.1
            exact ⟨_, _, by (go_simp); (try first | with_reducible rfl | rfl), Below.refl _ _, hq⟩
          simp only [Act.put, List.setIfInBounds_toArray, List.set_cons_zero, List.set_cons_succ]
          refine RX.seqP_make (SetR n0 S) (fun w w' v hb h => h.below hb) (by first | rfl | simp) (fun w' hw' hctx => ?_) (fun u9 => ?_)
          · obtain ⟨s, rfl, hq⟩ : SetT n0 S w' u8 := hctx.1
            exact ⟨_, _, by (go_simp); (try first | with_reducible rfl | rfl), Below.refl _ _, hq⟩
          simp only [Act.put, List.setIfInBounds_toArray, List.set_cons_zero, List.set_cons_succ]
          refine RX.seqP_value (fun _ => Below.refl _ _) _ (by first | rfl | simp) (fun w' hw' hctx => ?_) ?_
          · obtain ⟨s, rfl, hq⟩ : SetT n0 S w' u8 := hctx.2.1
            go_simp
            try first | with_reducible rfl | simp
          simp only [Act.put, List.setIfInBounds_toArray, List.set_cons_zero, List.set_cons_succ]
          refine RX.seqP_make (SetR n0 S) (fun w w' v hb h => h.below hb) (by first | rfl | simp) (fun w' hw' hctx => ?_) (fun u11 => ?_)
          · have hq : SetR n0 S w' u9 := hctx.1
            exact ⟨_, _, by (go_simp); (try first | with_reducible rfl | rfl), Below.refl _ _, hq⟩
          simp only [Act.put, List.setIfInBounds_toArray, List.set_cons_zero, List.set_cons_succ]
          refine RX.seqP_value (fun _ => Below.refl _ _) _ (by first | rfl | simp) (fun w' hw' hctx => by (go_simp); (try first | with_reducible rfl | simp)) ?_
          simp only [Act.put, List.setIfInBounds_toArray, List.set_cons_zero, List.set_cons_succ]
          refine RX.seqP_nil (fun vC hR hctx _ => ?_)
          have hvC := below_tr hdrC hR
          obtain ⟨gC, capC, rfl, hnC, hmC, hOC⟩ : SetR n0 S vC u11 := hctx.1
          clear hctx hR
          have BC := Lib.hid (BA.out.trans (hvC.mono BA.out.size))
          have HOC := Lib.hid hOC
          clear hvC hOC
          have hcon := same4_is (some ⟨gC, 0, none⟩) (some ⟨gS, 0, none⟩) capC capS n0 n0 S S true HSN.out HSN.out (by simp) _ (HOC.out.sl (by rw [HSN.out]; exact hnC) hmC HSW.out) (S_r12.out.below BC.out |>.sl (by rw [HSN.out]; exact hnS) hmS HSW.out)
          go_wp2_with fail
          refine (show Calls Try.prog _ _ _ _ from hcon).mono ?_
          rintro e w11 ⟨rfl, hb11⟩
          have TWO_214 := Lib.hid (HOC.out.below hb11)
          have B214 := Lib.hid (below_tr BC.out hb11)
          clear HOC BC
          clear hcon hb11
          go_wp2_with fail
          go_ret
          exact ⟨rfl, (below_tr HB12.out B214.out)⟩

theorem set_law (a0 : Option Addr) (c0 n0 : Nat) (l0 : List Val) (a1 : Option Addr) (c1 n1 : Nat) (l1 : List Int) (a2 : Option Addr) (c2 n2 : Nat) (l2 : List Val) (x3 : Int) (hn0 : l0.length = n0) (hn1 : l1.length = n1) (hn2 : l2.length = n2) (hx3 : I64 x3) (w : World) (hs0 : SlL w a0 c0 l0) (hs1 : SlI w a1 c1 l1) (hs2 : SlL w a2 c2 l2) :
    Calls Try.prog 4 #[.slice a0 n0 c0, .slice a1 n1 c1, .slice a2 n2 c2, .int .i64 x3] w fun e w' => e = .returned (.bool true) ∧ Below w.heap.size w w' := by
  cases hz0 : longB l0
  · cases hz2 : longB l2
    · by_cases h60 : 60 < n1
      · exact set_3 a0 c0 n0 l0 a1 c1 n1 l1 a2 c2 n2 l2 x3 hn0 hn1 hn2 hx3 w hs0 hs1 hs2 hz0 hz2 h60
      · cases hm : mayC l1 n0
        · exact set_4 a0 c0 n0 l0 a1 c1 n1 l1 a2 c2 n2 l2 x3 hn0 hn1 hn2 hx3 w hs0 hs1 hs2 hz0 hz2 (by omega) hm
        · by_cases hne : n2 = n1
          · subst hne
            exact set_6 n2 a0 c0 n0 l0 a1 c1 l1 a2 c2 l2 x3 hn0 hn1 hn2 hx3 w hs0 hs1 hs2 hz0 hz2 (by omega) hm
          · exact set_5 a0 c0 n0 l0 a1 c1 n1 l1 a2 c2 n2 l2 x3 hn0 hn1 hn2 hx3 w hs0 hs1 hs2 hz0 hz2 (by omega) hm hne
    · exact set_2 a0 c0 n0 l0 a1 c1 n1 l1 a2 c2 n2 l2 x3 hn0 hn1 hn2 hx3 w hs0 hs1 hs2 hz0 hz2
  · exact set_1 a0 c0 n0 l0 a1 c1 n1 l1 a2 c2 n2 l2 x3 hn0 hn1 hn2 hx3 w hs0 hs1 hs2 hz0

end Go.Proofs.Ytenpjfkiehcjlaa
