/-
  What value.Parse answers, as a walk over this translation.
-/
import Derived.Test.YtpnnkgjgkcgagaaDoorVParse
import Derived.Lib.ParseIntBTie
namespace Go.Proofs.YtpnnkgjgkcgagaaDoor
open Go.RowKit

theorem numV_bounds (l : List UInt8) : -9223372036854775808 ≤ numV l ∧ numV l ≤ 9223372036854775807 := by
  unfold numV
  cases h : Lib.parseIntB 64 l with
  | ok v => rw [Lib.parseIntB_64] at h; exact Lib.atoiAll_bounds h
  | range => simp only [Lib.intSat]; split <;> simp
  | _ => simp

theorem readR_bounds (l : List UInt8) : (-9223372036854775808 ≤ (readR l).n ∧ (readR l).n ≤ 9223372036854775807) ∧ (-9223372036854775808 ≤ (readR l).hi ∧ (readR l).hi ≤ 9223372036854775807) := by
  have h1 := numV_bounds l
  have h2 := numV_bounds (spanIn l).1
  have h3 := numV_bounds (spanIn l).2.1
  unfold readR textR
  repeat' split
  all_goals simp only []
  all_goals omega

/-- What Parse answers: the value, and whether there is one. -/
def parseR (l : List UInt8) : Rd :=
  if (readR l).ok = true ∧ textL (readR l).k (readR l).n (readR l).hi (readR l).t = l then readR l else ⟨0, 0, 0, [], false⟩

def paV (r : Rd) : Value := .tuple #[.agg #[.int .u8 r.k, .int .i64 r.n, .int .i64 r.hi, .string ⟨r.t.toArray⟩], .int .i64 (if r.ok = true then 0 else 4)]

set_option maxHeartbeats 400000 in
theorem parse_no (s : ByteArray) (h2 : s.size ≤ 100000) (k n hi : Int) (t : List UInt8) (hr : readR s.data.toList = ⟨k, n, hi, t, false⟩) (w : World) (hg : Good w) :
    Calls Tryd.prog 22 #[.string s] w fun e w' => e = .returned (paV ⟨0, 0, 0, [], false⟩) ∧ Below w.heap.size w w' := by
  have HR := Lib.hid hr
  clear hr
  have hg1 := hg.below (Below.allocs w (.cells #[.int .u8 0, .int .i64 0, .int .i64 0, .string ⟨#[]⟩] 26))
  have B0 := Boxed.new w 0 0 0 ⟨#[]⟩ 26
  have f0 : ∀ o, (w.alloc (.cells #[.int .u8 0, .int .i64 0, .int .i64 0, .string ⟨#[]⟩] 26)).frozen? ⟨w.heap.size, o, none⟩ = false := fun o => by simp
  go_enter Tryd.func22, Tryd.ntmps22
  go_wp2_with fail
  refine (read_any s h2 _ hg1).mono ?_
  rintro e w1 ⟨rfl, hb⟩
  rw [HR.out]
  unfold rdV
  have hg2 := hg1.below hb
  have B1 := B0.below hb
  have f1 : ∀ o, w1.frozen? ⟨w.heap.size, o, none⟩ = false := fun o => by rw [hb.frozen B0.2.2.2.2]; exact f0 o
  have hbe := below_tr (Below.allocs w _) hb
  clear hg2
  obtain ⟨c0, c1, c2, c3, c4⟩ := B1
  clear hg1 B0 f0 hb
  go_wp2_with fail
  refine bodyPost_ret (v := paV ⟨0, 0, 0, [], false⟩) (by simp [results, Tryd.results22, go_sem, paV, c0, c1, c2, c3, c4]) rfl ⟨rfl, ?_⟩
  refine Below.alloc ?_ (by simp; omega) _
  exact (((hbe.setCell (Nat.le_refl _) _).setCell (Nat.le_refl _) _).setCell (Nat.le_refl _) _).setCell (Nat.le_refl _) _

set_option maxHeartbeats 1000000 in
theorem parse_diff (s : ByteArray) (h2 : s.size ≤ 100000) (k n hi : Int) (t : List UInt8) (b1 : -9223372036854775808 ≤ n ∧ n ≤ 9223372036854775807) (b2 : -9223372036854775808 ≤ hi ∧ hi ≤ 9223372036854775807) (hr : readR s.data.toList = ⟨k, n, hi, t, true⟩) (hT : (textL k n hi t != s.data.toList) = true) (w : World) (hg : Good w) :
    Calls Tryd.prog 22 #[.string s] w fun e w' => e = .returned (paV ⟨0, 0, 0, [], false⟩) ∧ Below w.heap.size w w' := by
  have HR := Lib.hid hr
  clear hr
  have hg1 := hg.below (Below.allocs w (.cells #[.int .u8 0, .int .i64 0, .int .i64 0, .string ⟨#[]⟩] 26))
  have B0 := Boxed.new w 0 0 0 ⟨#[]⟩ 26
  have f0 : ∀ o, (w.alloc (.cells #[.int .u8 0, .int .i64 0, .int .i64 0, .string ⟨#[]⟩] 26)).frozen? ⟨w.heap.size, o, none⟩ = false := fun o => by simp
  go_enter Tryd.func22, Tryd.ntmps22
  go_wp2_with fail
  refine (read_any s h2 _ hg1).mono ?_
  rintro e w1 ⟨rfl, hb⟩
  rw [HR.out]
  unfold rdV
  have hg2 := hg1.below hb
  have B1 := B0.below hb
  have f1 : ∀ o, w1.frozen? ⟨w.heap.size, o, none⟩ = false := fun o => by rw [hb.frozen B0.2.2.2.2]; exact f0 o
  have hbe := below_tr (Below.allocs w _) hb
  have C0 := Boxed.new w1 k n hi ⟨t.toArray⟩ 26
  have hb3 := Below.allocs w1 (.cells #[.int .u8 k, .int .i64 n, .int .i64 hi, .string ⟨t.toArray⟩] 26)
  have hg3 := hg2.below hb3
  have B2 := B1.below hb3
  have f2 : ∀ o, (w1.alloc (.cells #[.int .u8 k, .int .i64 n, .int .i64 hi, .string ⟨t.toArray⟩] 26)).frozen? ⟨w.heap.size, o, none⟩ = false := fun o => by rw [hb3.frozen B1.2.2.2.2]; exact f1 o
  have hbe3 := below_tr hbe hb3
  clear hg1 hg2 B0 f0 hb f1
  go_wp2_with fail
  refine (text_any k n hi b1.1 b1.2 b2.1 b2.2 ⟨t.toArray⟩ _ hg3.toGoodT).mono ?_
  rintro e w2 ⟨rfl, hb4⟩
  rw [show (⟨t.toArray⟩ : ByteArray).data.toList = t from rfl]
  obtain ⟨d0, d1, d2, d3, d4⟩ := C0.below hb4
  have f3 : ∀ o, w2.frozen? ⟨w.heap.size, o, none⟩ = false := fun o => by rw [hb4.frozen B2.2.2.2.2]; exact f2 o
  obtain ⟨c0, c1, c2, c3, c4⟩ := B2.below hb4
  have hbe4 := below_tr hbe3 hb4
  obtain ⟨tx, ht⟩ : ∃ tx, textL k n hi t = tx := ⟨_, rfl⟩
  rw [ht] at hT ⊢
  have HT : (tx == s.toList) = false := by rw [ByteArray.toList_eq]; simpa using hT
  clear hT ht
  go_wp2_with fail
  refine bodyPost_ret (v := paV ⟨0, 0, 0, [], false⟩) (by simp [results, Tryd.results22, go_sem, paV, c0, c1, c2, c3]) rfl ⟨rfl, ?_⟩
  exact (((hbe4.setCell (Nat.le_refl _) _).setCell (Nat.le_refl _) _).setCell (Nat.le_refl _) _).setCell (Nat.le_refl _) _

set_option maxHeartbeats 1000000 in
theorem parse_ok (s : ByteArray) (h2 : s.size ≤ 100000) (k n hi : Int) (t : List UInt8) (b1 : -9223372036854775808 ≤ n ∧ n ≤ 9223372036854775807) (b2 : -9223372036854775808 ≤ hi ∧ hi ≤ 9223372036854775807) (hr : readR s.data.toList = ⟨k, n, hi, t, true⟩) (hT : (textL k n hi t != s.data.toList) = false) (w : World) (hg : Good w) :
    Calls Tryd.prog 22 #[.string s] w fun e w' => e = .returned (paV ⟨k, n, hi, t, true⟩) ∧ Below w.heap.size w w' := by
  have HR := Lib.hid hr
  clear hr
  have hg1 := hg.below (Below.allocs w (.cells #[.int .u8 0, .int .i64 0, .int .i64 0, .string ⟨#[]⟩] 26))
  have B0 := Boxed.new w 0 0 0 ⟨#[]⟩ 26
  have f0 : ∀ o, (w.alloc (.cells #[.int .u8 0, .int .i64 0, .int .i64 0, .string ⟨#[]⟩] 26)).frozen? ⟨w.heap.size, o, none⟩ = false := fun o => by simp
  go_enter Tryd.func22, Tryd.ntmps22
  go_wp2_with fail
  refine (read_any s h2 _ hg1).mono ?_
  rintro e w1 ⟨rfl, hb⟩
  rw [HR.out]
  unfold rdV
  have hg2 := hg1.below hb
  have B1 := B0.below hb
  have f1 : ∀ o, w1.frozen? ⟨w.heap.size, o, none⟩ = false := fun o => by rw [hb.frozen B0.2.2.2.2]; exact f0 o
  have hbe := below_tr (Below.allocs w _) hb
  have C0 := Boxed.new w1 k n hi ⟨t.toArray⟩ 26
  have hb3 := Below.allocs w1 (.cells #[.int .u8 k, .int .i64 n, .int .i64 hi, .string ⟨t.toArray⟩] 26)
  have hg3 := hg2.below hb3
  have B2 := B1.below hb3
  have f2 : ∀ o, (w1.alloc (.cells #[.int .u8 k, .int .i64 n, .int .i64 hi, .string ⟨t.toArray⟩] 26)).frozen? ⟨w.heap.size, o, none⟩ = false := fun o => by rw [hb3.frozen B1.2.2.2.2]; exact f1 o
  have hbe3 := below_tr hbe hb3
  clear hg1 hg2 B0 f0 hb f1
  go_wp2_with fail
  refine (text_any k n hi b1.1 b1.2 b2.1 b2.2 ⟨t.toArray⟩ _ hg3.toGoodT).mono ?_
  rintro e w2 ⟨rfl, hb4⟩
  rw [show (⟨t.toArray⟩ : ByteArray).data.toList = t from rfl]
  obtain ⟨d0, d1, d2, d3, d4⟩ := C0.below hb4
  have f3 : ∀ o, w2.frozen? ⟨w.heap.size, o, none⟩ = false := fun o => by rw [hb4.frozen B2.2.2.2.2]; exact f2 o
  obtain ⟨c0, c1, c2, c3, c4⟩ := B2.below hb4
  have hbe4 := below_tr hbe3 hb4
  obtain ⟨tx, ht⟩ : ∃ tx, textL k n hi t = tx := ⟨_, rfl⟩
  rw [ht] at hT ⊢
  have HT : (tx == s.toList) = true := by rw [ByteArray.toList_eq]; simpa using hT
  clear hT ht
  go_wp2_with fail
  refine bodyPost_ret (v := paV ⟨k, n, hi, t, true⟩) (by simp [results, Tryd.results22, go_sem, paV, c0, c1, c2, c3]) rfl ⟨rfl, ?_⟩
  exact (((hbe4.setCell (Nat.le_refl _) _).setCell (Nat.le_refl _) _).setCell (Nat.le_refl _) _).setCell (Nat.le_refl _) _

theorem parse_any (s : ByteArray) (h2 : s.size ≤ 100000) (w : World) (hg : Good w) :
    Calls Tryd.prog 22 #[.string s] w fun e w' => e = .returned (paV (parseR s.data.toList)) ∧ Below w.heap.size w w' := by
  have hb := readR_bounds s.data.toList
  unfold parseR
  cases hr : readR s.data.toList with
  | mk k n hi t ok =>
    rw [hr] at hb
    simp only [] at hb ⊢
    cases ok
    · rw [if_neg (by simp)]
      exact parse_no s h2 k n hi t hr w hg
    · by_cases hT : textL k n hi t = s.data.toList
      · rw [if_pos ⟨rfl, hT⟩]
        exact parse_ok s h2 k n hi t hb.1 hb.2 hr (by simpa using hT) w hg
      · rw [if_neg (fun h => hT h.2)]
        exact parse_diff s h2 k n hi t hb.1 hb.2 hr (by simpa using hT) w hg

end Go.Proofs.YtpnnkgjgkcgagaaDoor
