/-
  The law ValueNames as a walk over this translation: it answers true, and of what was there nothing has turned.
 -/
import Derived.Test.YtpnnkgjgkcgagaaDoorVWorks
import Derived.Test.YtpnnkgjgkcgagaaDoorVFit
import Derived.Test.YtpnnkgjgkcgagaaDoorVDig

namespace Go.Proofs.YtpnnkgjgkcgagaaDoor
open Go.RowKit

/-- Bytes that are 0. -/
def zerosB (n : Nat) : ByteArray := ⟨(List.replicate n 0).toArray⟩

theorem made_zeros (n : Nat) (hn : n ≤ 1000) (w : World) : ∃ W, Sem.run Tryd.prog (Instr.makeSlice 23 (.int .i64 (n : Int)) (.int .i64 (n : Int))) w = .ok (.slice (some ⟨w.heap.size, 0, none⟩) n n) W ∧
    Sem.run Tryd.prog (convert 23 9 (.slice (some ⟨w.heap.size, 0, none⟩) n n)) W = .ok (.string (zerosB n)) W ∧ Below w.heap.size w W := by
  refine ⟨_, run_make_row' 23 5 (.int .u8 0) 1 (by kernel_rfl) (by kernel_rfl) rfl .i64 .i64 n (by omega) (by omega) w, ?_, Below.allocs _ _⟩
  have := run_convert_bytes_arg (P := Tryd.prog) (w.alloc (.cells (madeCells #[.int .u8 0] n) 5)) 23 5 (by kernel_rfl) (by kernel_rfl) w.heap.size 0 n n (List.replicate n 0) (by simp) (fun i hi => by
    rw [World.cell?_alloc_at _ _ _ _ rfl]
    simp [madeCells, hi, List.getD, Nat.mod_one]) 9 (by kernel_rfl)
  rw [this, show strOfNums (List.replicate n 0) = zerosB n by simp [strOfNums, zerosB]]

/-- 256 bytes that are 0. -/
def longB : ByteArray := zerosB 256

theorem made_long (w : World) : ∃ W, Sem.run Tryd.prog (Instr.makeSlice 23 (.int .i64 256) (.int .i64 256)) w = .ok (.slice (some ⟨w.heap.size, 0, none⟩) 256 256) W ∧
    Sem.run Tryd.prog (convert 23 9 (.slice (some ⟨w.heap.size, 0, none⟩) 256 256)) W = .ok (.string longB) W ∧ Below w.heap.size w W :=
  made_zeros 256 (by decide) w

theorem long_1 : mayB 3 0 0 longB.data.toList = true := by decide +kernel
theorem long_2 : textL 3 0 0 longB.data.toList = (⟨#[39]⟩ ++ longB ++ ⟨#[39]⟩ : ByteArray).data.toList := by decide +kernel
theorem long_3 : (parseR (⟨#[39]⟩ ++ longB ++ ⟨#[120, 39]⟩ : ByteArray).data.toList).ok = false := by decide +kernel
theorem long_4 : mayB 3 0 0 (longB ++ ⟨#[120]⟩).data.toList = false := by decide +kernel
theorem long_5 : longB.size = 256 := by decide +kernel

/-- What is asked of the long text. -/
theorem long_all (w : World) : ∃ W Z, Sem.run Tryd.prog (Instr.makeSlice 23 (.int .i64 256) (.int .i64 256)) w = .ok (.slice (some ⟨w.heap.size, 0, none⟩) 256 256) W ∧
    Sem.run Tryd.prog (convert 23 9 (.slice (some ⟨w.heap.size, 0, none⟩) 256 256)) W = .ok (.string Z) W ∧ Below w.heap.size w W ∧ Z.size = 256 ∧
    Hid (mayB 3 0 0 Z.data.toList = true) ∧ Hid (textL 3 0 0 Z.data.toList = (⟨#[39]⟩ ++ Z ++ ⟨#[39]⟩ : ByteArray).data.toList) ∧
    Hid ((parseR (⟨#[39]⟩ ++ Z ++ ⟨#[120, 39]⟩ : ByteArray).data.toList).ok = false) ∧ Hid (mayB 3 0 0 (Z ++ ⟨#[120]⟩).data.toList = false) := by
  obtain ⟨W, h1, h2, h3⟩ := made_long w
  exact ⟨W, longB, h1, h2, h3, long_5, Lib.hid long_1, Lib.hid long_2, Lib.hid long_3, Lib.hid long_4⟩

theorem says_long (Z : ByteArray) (hZ : Z.size = 256) (hm : mayB 3 0 0 Z.data.toList = true) (ht : textL 3 0 0 Z.data.toList = (⟨#[39]⟩ ++ Z ++ ⟨#[39]⟩ : ByteArray).data.toList) (w : World) (hg : Good w) :
    Calls Tryd.prog 12 #[.agg #[.int .u8 3, .int .i64 0, .int .i64 0, .string Z], .string (⟨#[39]⟩ ++ Z ++ ⟨#[39]⟩)] w fun e w' => e = .returned (.bool true) ∧ Below w.heap.size w w' :=
  says_is 3 0 0 Z _ (by omega) (by omega) (by rw [ByteArray.size_append, ByteArray.size_append, hZ]; decide) hm ht w hg

theorem none_long (Z : ByteArray) (hZ : Z.size = 256) (hp : (parseR (⟨#[39]⟩ ++ Z ++ ⟨#[120, 39]⟩ : ByteArray).data.toList).ok = false) (w : World) (hg : Good w) :
    Calls Tryd.prog 13 #[.string (⟨#[39]⟩ ++ Z ++ ⟨#[120, 39]⟩)] w fun e w' => e = .returned (.bool true) ∧ Below w.heap.size w w' :=
  none_is _ (by rw [ByteArray.size_append, ByteArray.size_append, hZ]; decide) hp w hg

theorem text_none (k n hi : Int) (t : ByteArray) (hm : mayB k n hi t.data.toList = false) (w : World) :
    Calls Tryd.prog 15 #[.agg #[.int .u8 k, .int .i64 n, .int .i64 hi, .string t]] w fun e w' => e = .returned (.string ⟨#[]⟩) ∧ Below w.heap.size w w' :=
  (text_bad k n hi t w hm).mono fun _ _ hq => by
    rw [show textL k n hi t.data.toList = [] by unfold textL; rw [if_pos hm]] at hq; exact hq

theorem fits_none (k n hi : Int) (t : ByteArray) (kind : Int) (hm : mayB k n hi t.data.toList = false) (w : World) :
    Calls Tryd.prog 16 #[.agg #[.int .u8 k, .int .i64 n, .int .i64 hi, .string t], .int .u8 kind] w fun e w' => e = .returned (.bool false) ∧ Below w.heap.size w w' :=
  fits_is k n hi t kind false (by unfold fitsB; rw [hm]; simp) w

theorem may_long (Z : ByteArray) (h : Hid (mayB 3 0 0 (Z ++ ⟨#[120]⟩).data.toList = false)) (w : World) :
    Calls Tryd.prog 14 #[.agg #[.int .u8 3, .int .i64 0, .int .i64 0, .string (Z ++ ⟨#[120]⟩)]] w fun e w' => e = .returned (.bool false) ∧ Below w.heap.size w w' :=
  may_is 3 0 0 _ w false h.out

theorem text_long (Z : ByteArray) (h : Hid (mayB 3 0 0 (Z ++ ⟨#[120]⟩).data.toList = false)) (w : World) :
    Calls Tryd.prog 15 #[.agg #[.int .u8 3, .int .i64 0, .int .i64 0, .string (Z ++ ⟨#[120]⟩)]] w fun e w' => e = .returned (.string ⟨#[]⟩) ∧ Below w.heap.size w w' :=
  text_none 3 0 0 _ h.out w

theorem fits_long (Z : ByteArray) (kind : Int) (h : Hid (mayB 3 0 0 (Z ++ ⟨#[120]⟩).data.toList = false)) (w : World) :
    Calls Tryd.prog 16 #[.agg #[.int .u8 3, .int .i64 0, .int .i64 0, .string (Z ++ ⟨#[120]⟩)], .int .u8 kind] w fun e w' => e = .returned (.bool false) ∧ Below w.heap.size w w' :=
  fits_none 3 0 0 _ kind h.out w

set_option maxRecDepth 100000 in
set_option maxHeartbeats 40000000 in
theorem names_any (w : World) (hg : Good w) :
    Calls Tryd.prog 3 #[] w fun e w' => e = .returned (.bool true) ∧ Below w.heap.size w w' := by
  go_enter Tryd.func3, Tryd.ntmps3
  go_wp2_with fail
  refine (works_true _ hg).mono ?_
  rintro e w1 ⟨rfl, hb1⟩
  have hg1 := hg.below hb1
  obtain ⟨W, Z, hmk, hcv, hbW, hZ, HZ1, HZ2, HZ3, HZ4⟩ := long_all w1
  have hb2 := below_tr hb1 hbW
  have hg2 := hg1.below hbW
  go_wp2_with fail
  refine (says_is 0 0 0 ⟨#[]⟩ ⟨#[110, 117, 108, 108]⟩ (by omega) (by omega) (by decide) (by decide +kernel) (by decide +kernel) _ hg2).mono ?_
  rintro e w3 ⟨rfl, hc3⟩
  have hb3 := below_tr hb2 hc3
  have hg3 := hg2.below hc3
  clear hg hb1 hg1 hmk hcv hbW hg2 hb2 hc3
  go_wp2_with fail
  refine (says_is 2 0 0 ⟨#[]⟩ ⟨#[110, 111]⟩ (by omega) (by omega) (by decide) (by decide +kernel) (by decide +kernel) _ hg3).mono ?_
  rintro e w4 ⟨rfl, hc4⟩
  have hb4 := below_tr hb3 hc4
  have hg4 := hg3.below hc4
  clear hg3 hb3 hc4
  go_wp2_with fail
  refine (says_is 1 0 0 ⟨#[]⟩ ⟨#[48]⟩ (by omega) (by omega) (by decide) (by decide +kernel) (by decide +kernel) _ hg4).mono ?_
  rintro e w5 ⟨rfl, hc5⟩
  have hb5 := below_tr hb4 hc5
  have hg5 := hg4.below hc5
  clear hg4 hb4 hc5
  go_wp2_with fail
  refine (says_is 1 (-9223372036854775808) 0 ⟨#[]⟩ ⟨#[45, 57, 50, 50, 51, 51, 55, 50, 48, 51, 54, 56, 53, 52, 55, 55, 53, 56, 48, 56]⟩ (by omega) (by omega) (by decide) (by decide +kernel) (by decide +kernel) _ hg5).mono ?_
  rintro e w6 ⟨rfl, hc6⟩
  have hb6 := below_tr hb5 hc6
  have hg6 := hg5.below hc6
  clear hg5 hb5 hc6
  go_wp2_with fail
  refine (says_is 1 9223372036854775807 0 ⟨#[]⟩ ⟨#[57, 50, 50, 51, 51, 55, 50, 48, 51, 54, 56, 53, 52, 55, 55, 53, 56, 48, 55]⟩ (by omega) (by omega) (by decide) (by decide +kernel) (by decide +kernel) _ hg6).mono ?_
  rintro e w7 ⟨rfl, hc7⟩
  have hb7 := below_tr hb6 hc7
  have hg7 := hg6.below hc7
  clear hg6 hb6 hc7
  go_wp2_with fail
  refine (says_is 3 0 0 ⟨#[]⟩ ⟨#[39, 39]⟩ (by omega) (by omega) (by decide) (by decide +kernel) (by decide +kernel) _ hg7).mono ?_
  rintro e w8 ⟨rfl, hc8⟩
  have hb8 := below_tr hb7 hc8
  have hg8 := hg7.below hc8
  clear hg7 hb7 hc8
  go_wp2_with fail
  refine (says_is 3 0 0 ⟨#[39, 39]⟩ ⟨#[39, 39, 39, 39, 39, 39]⟩ (by omega) (by omega) (by decide) (by decide +kernel) (by decide +kernel) _ hg8).mono ?_
  rintro e w9 ⟨rfl, hc9⟩
  have hb9 := below_tr hb8 hc9
  have hg9 := hg8.below hc9
  clear hg8 hb8 hc9
  go_wp2_with fail
  refine (says_is 4 (-3) 0 ⟨#[]⟩ ⟨#[91, 45, 51, 44, 48, 41]⟩ (by omega) (by omega) (by decide) (by decide +kernel) (by decide +kernel) _ hg9).mono ?_
  rintro e w10 ⟨rfl, hc10⟩
  have hb10 := below_tr hb9 hc10
  have hg10 := hg9.below hc10
  clear hg9 hb9 hc10
  go_wp2_with fail
  refine (says_long Z hZ HZ1.out HZ2.out _ hg10).mono ?_
  rintro e w11 ⟨rfl, hc11⟩
  have hb11 := below_tr hb10 hc11
  have hg11 := hg10.below hc11
  clear hg10 hb10 hc11
  go_wp2_with fail
  refine (says_is 3 0 0 ⟨#[110, 117, 108, 108]⟩ ⟨#[39, 110, 117, 108, 108, 39]⟩ (by omega) (by omega) (by decide) (by decide +kernel) (by decide +kernel) _ hg11).mono ?_
  rintro e w12 ⟨rfl, hc12⟩
  have hb12 := below_tr hb11 hc12
  have hg12 := hg11.below hc12
  clear hg11 hb11 hc12
  go_wp2_with fail
  have hd := below_tr hb12 (Below.allocs w12 (.cells #[.string (⟨#[]⟩), .string (⟨#[78, 85, 76, 76]⟩), .string (⟨#[89, 101, 115]⟩), .string (⟨#[43, 49]⟩), .string (⟨#[57, 50, 50, 51, 51, 55, 50, 48, 51, 54, 56, 53, 52, 55, 55, 53, 56, 48, 56]⟩), .string (⟨#[45, 57, 50, 50, 51, 51, 55, 50, 48, 51, 54, 56, 53, 52, 55, 55, 53, 56, 48, 57]⟩), .string (⟨#[49, 32]⟩), .string (⟨#[32, 49]⟩), .string (⟨#[39]⟩), .string (⟨#[39, 39, 39]⟩), .string (⟨#[39, 97, 39, 98, 39]⟩), .string (⟨#[91]⟩), .string (⟨#[91, 49]⟩), .string (⟨#[91, 49, 44]⟩), .string (⟨#[91, 49, 44, 50]⟩), .string (⟨#[91, 49, 44, 50, 93]⟩), .string (⟨#[91, 50, 44, 49, 41]⟩), .string (⟨#[91, 49, 44, 48, 50, 41]⟩), .string (⟨#[91, 49, 44, 50, 41, 41]⟩), .string (⟨#[91, 44, 41]⟩), .string (⟨#[45]⟩), .string (⟨#[49, 46, 48]⟩), .string (⟨#[39]⟩ ++ Z ++ ⟨#[120, 39]⟩)] 9))
  have q : ∀ j v, (#[.string (⟨#[]⟩), .string (⟨#[78, 85, 76, 76]⟩), .string (⟨#[89, 101, 115]⟩), .string (⟨#[43, 49]⟩), .string (⟨#[57, 50, 50, 51, 51, 55, 50, 48, 51, 54, 56, 53, 52, 55, 55, 53, 56, 48, 56]⟩), .string (⟨#[45, 57, 50, 50, 51, 51, 55, 50, 48, 51, 54, 56, 53, 52, 55, 55, 53, 56, 48, 57]⟩), .string (⟨#[49, 32]⟩), .string (⟨#[32, 49]⟩), .string (⟨#[39]⟩), .string (⟨#[39, 39, 39]⟩), .string (⟨#[39, 97, 39, 98, 39]⟩), .string (⟨#[91]⟩), .string (⟨#[91, 49]⟩), .string (⟨#[91, 49, 44]⟩), .string (⟨#[91, 49, 44, 50]⟩), .string (⟨#[91, 49, 44, 50, 93]⟩), .string (⟨#[91, 50, 44, 49, 41]⟩), .string (⟨#[91, 49, 44, 48, 50, 41]⟩), .string (⟨#[91, 49, 44, 50, 41, 41]⟩), .string (⟨#[91, 44, 41]⟩), .string (⟨#[45]⟩), .string (⟨#[49, 46, 48]⟩), .string (⟨#[39]⟩ ++ Z ++ ⟨#[120, 39]⟩)] : Array Value)[j]? = some v → (w12.alloc (.cells #[.string (⟨#[]⟩), .string (⟨#[78, 85, 76, 76]⟩), .string (⟨#[89, 101, 115]⟩), .string (⟨#[43, 49]⟩), .string (⟨#[57, 50, 50, 51, 51, 55, 50, 48, 51, 54, 56, 53, 52, 55, 55, 53, 56, 48, 56]⟩), .string (⟨#[45, 57, 50, 50, 51, 51, 55, 50, 48, 51, 54, 56, 53, 52, 55, 55, 53, 56, 48, 57]⟩), .string (⟨#[49, 32]⟩), .string (⟨#[32, 49]⟩), .string (⟨#[39]⟩), .string (⟨#[39, 39, 39]⟩), .string (⟨#[39, 97, 39, 98, 39]⟩), .string (⟨#[91]⟩), .string (⟨#[91, 49]⟩), .string (⟨#[91, 49, 44]⟩), .string (⟨#[91, 49, 44, 50]⟩), .string (⟨#[91, 49, 44, 50, 93]⟩), .string (⟨#[91, 50, 44, 49, 41]⟩), .string (⟨#[91, 49, 44, 48, 50, 41]⟩), .string (⟨#[91, 49, 44, 50, 41, 41]⟩), .string (⟨#[91, 44, 41]⟩), .string (⟨#[45]⟩), .string (⟨#[49, 46, 48]⟩), .string (⟨#[39]⟩ ++ Z ++ ⟨#[120, 39]⟩)] 9)).cell? ⟨w12.heap.size, j, none⟩ = some v := fun j v h => by rw [World.cell?_alloc_at _ _ _ _ rfl]; exact h
  have hg0 : w12.heap.size < (w12.alloc (.cells #[.string (⟨#[]⟩), .string (⟨#[78, 85, 76, 76]⟩), .string (⟨#[89, 101, 115]⟩), .string (⟨#[43, 49]⟩), .string (⟨#[57, 50, 50, 51, 51, 55, 50, 48, 51, 54, 56, 53, 52, 55, 55, 53, 56, 48, 56]⟩), .string (⟨#[45, 57, 50, 50, 51, 51, 55, 50, 48, 51, 54, 56, 53, 52, 55, 55, 53, 56, 48, 57]⟩), .string (⟨#[49, 32]⟩), .string (⟨#[32, 49]⟩), .string (⟨#[39]⟩), .string (⟨#[39, 39, 39]⟩), .string (⟨#[39, 97, 39, 98, 39]⟩), .string (⟨#[91]⟩), .string (⟨#[91, 49]⟩), .string (⟨#[91, 49, 44]⟩), .string (⟨#[91, 49, 44, 50]⟩), .string (⟨#[91, 49, 44, 50, 93]⟩), .string (⟨#[91, 50, 44, 49, 41]⟩), .string (⟨#[91, 49, 44, 48, 50, 41]⟩), .string (⟨#[91, 49, 44, 50, 41, 41]⟩), .string (⟨#[91, 44, 41]⟩), .string (⟨#[45]⟩), .string (⟨#[49, 46, 48]⟩), .string (⟨#[39]⟩ ++ Z ++ ⟨#[120, 39]⟩)] 9)).heap.size := by simp
  have hgA := hg12.below (Below.allocs w12 (.cells #[.string (⟨#[]⟩), .string (⟨#[78, 85, 76, 76]⟩), .string (⟨#[89, 101, 115]⟩), .string (⟨#[43, 49]⟩), .string (⟨#[57, 50, 50, 51, 51, 55, 50, 48, 51, 54, 56, 53, 52, 55, 55, 53, 56, 48, 56]⟩), .string (⟨#[45, 57, 50, 50, 51, 51, 55, 50, 48, 51, 54, 56, 53, 52, 55, 55, 53, 56, 48, 57]⟩), .string (⟨#[49, 32]⟩), .string (⟨#[32, 49]⟩), .string (⟨#[39]⟩), .string (⟨#[39, 39, 39]⟩), .string (⟨#[39, 97, 39, 98, 39]⟩), .string (⟨#[91]⟩), .string (⟨#[91, 49]⟩), .string (⟨#[91, 49, 44]⟩), .string (⟨#[91, 49, 44, 50]⟩), .string (⟨#[91, 49, 44, 50, 93]⟩), .string (⟨#[91, 50, 44, 49, 41]⟩), .string (⟨#[91, 49, 44, 48, 50, 41]⟩), .string (⟨#[91, 49, 44, 50, 41, 41]⟩), .string (⟨#[91, 44, 41]⟩), .string (⟨#[45]⟩), .string (⟨#[49, 46, 48]⟩), .string (⟨#[39]⟩ ++ Z ++ ⟨#[120, 39]⟩)] 9))
  generalize w12.alloc (.cells #[.string (⟨#[]⟩), .string (⟨#[78, 85, 76, 76]⟩), .string (⟨#[89, 101, 115]⟩), .string (⟨#[43, 49]⟩), .string (⟨#[57, 50, 50, 51, 51, 55, 50, 48, 51, 54, 56, 53, 52, 55, 55, 53, 56, 48, 56]⟩), .string (⟨#[45, 57, 50, 50, 51, 51, 55, 50, 48, 51, 54, 56, 53, 52, 55, 55, 53, 56, 48, 57]⟩), .string (⟨#[49, 32]⟩), .string (⟨#[32, 49]⟩), .string (⟨#[39]⟩), .string (⟨#[39, 39, 39]⟩), .string (⟨#[39, 97, 39, 98, 39]⟩), .string (⟨#[91]⟩), .string (⟨#[91, 49]⟩), .string (⟨#[91, 49, 44]⟩), .string (⟨#[91, 49, 44, 50]⟩), .string (⟨#[91, 49, 44, 50, 93]⟩), .string (⟨#[91, 50, 44, 49, 41]⟩), .string (⟨#[91, 49, 44, 48, 50, 41]⟩), .string (⟨#[91, 49, 44, 50, 41, 41]⟩), .string (⟨#[91, 44, 41]⟩), .string (⟨#[45]⟩), .string (⟨#[49, 46, 48]⟩), .string (⟨#[39]⟩ ++ Z ++ ⟨#[120, 39]⟩)] 9) = W0 at *
  generalize w12.heap.size = g at *
  have HQ := Lib.hid q
  clear q hb12 hg12
  go_loopw [75] (fun c wr => ∃ i : Int, (0 ≤ i ∧ i ≤ 23) ∧ c = .int .i64 i ∧ Below W0.heap.size W0 wr) (fun c _ => 23 - (intOf c).toNat)
  case atStart => exact ⟨0, by omega, rfl, Below.refl _ _⟩
  case round =>
    obtain ⟨i, hi4, rfl, hbr⟩ := hrel
    have q := HQ.out
    have hi5 : i = 0 ∨ i = 1 ∨ i = 2 ∨ i = 3 ∨ i = 4 ∨ i = 5 ∨ i = 6 ∨ i = 7 ∨ i = 8 ∨ i = 9 ∨ i = 10 ∨ i = 11 ∨ i = 12 ∨ i = 13 ∨ i = 14 ∨ i = 15 ∨ i = 16 ∨ i = 17 ∨ i = 18 ∨ i = 19 ∨ i = 20 ∨ i = 21 ∨ i = 22 ∨ i = 23 := by omega
    clear hi4
    have hgr := hgA.below hbr
    rcases hi5 with rfl | rfl | rfl | rfl | rfl | rfl | rfl | rfl | rfl | rfl | rfl | rfl | rfl | rfl | rfl | rfl | rfl | rfl | rfl | rfl | rfl | rfl | rfl | rfl
    · have q0 : wr.cell? ⟨g, 0, none⟩ = some (.string (⟨#[]⟩)) := by rw [hbr.cell hg0]; exact q 0 _ rfl
      clear q HQ
      go_wp2_with fail
      refine (none_is (⟨#[]⟩) (by decide) (by decide +kernel) _ hgr).mono ?_
      rintro e wb ⟨rfl, hbb⟩
      have hwb := below_tr hbr hbb
      go_wp2_with fail
      go_roundw
      case rel => exact ⟨1, by omega, rfl, hwb⟩
      case measure => simp [intOf]
    · have q0 : wr.cell? ⟨g, 1, none⟩ = some (.string (⟨#[78, 85, 76, 76]⟩)) := by rw [hbr.cell hg0]; exact q 1 _ rfl
      clear q HQ
      go_wp2_with fail
      refine (none_is (⟨#[78, 85, 76, 76]⟩) (by decide) (by decide +kernel) _ hgr).mono ?_
      rintro e wb ⟨rfl, hbb⟩
      have hwb := below_tr hbr hbb
      go_wp2_with fail
      go_roundw
      case rel => exact ⟨2, by omega, rfl, hwb⟩
      case measure => simp [intOf]
    · have q0 : wr.cell? ⟨g, 2, none⟩ = some (.string (⟨#[89, 101, 115]⟩)) := by rw [hbr.cell hg0]; exact q 2 _ rfl
      clear q HQ
      go_wp2_with fail
      refine (none_is (⟨#[89, 101, 115]⟩) (by decide) (by decide +kernel) _ hgr).mono ?_
      rintro e wb ⟨rfl, hbb⟩
      have hwb := below_tr hbr hbb
      go_wp2_with fail
      go_roundw
      case rel => exact ⟨3, by omega, rfl, hwb⟩
      case measure => simp [intOf]
    · have q0 : wr.cell? ⟨g, 3, none⟩ = some (.string (⟨#[43, 49]⟩)) := by rw [hbr.cell hg0]; exact q 3 _ rfl
      clear q HQ
      go_wp2_with fail
      refine (none_is (⟨#[43, 49]⟩) (by decide) (by decide +kernel) _ hgr).mono ?_
      rintro e wb ⟨rfl, hbb⟩
      have hwb := below_tr hbr hbb
      go_wp2_with fail
      go_roundw
      case rel => exact ⟨4, by omega, rfl, hwb⟩
      case measure => simp [intOf]
    · have q0 : wr.cell? ⟨g, 4, none⟩ = some (.string (⟨#[57, 50, 50, 51, 51, 55, 50, 48, 51, 54, 56, 53, 52, 55, 55, 53, 56, 48, 56]⟩)) := by rw [hbr.cell hg0]; exact q 4 _ rfl
      clear q HQ
      go_wp2_with fail
      refine (none_is (⟨#[57, 50, 50, 51, 51, 55, 50, 48, 51, 54, 56, 53, 52, 55, 55, 53, 56, 48, 56]⟩) (by decide) (by decide +kernel) _ hgr).mono ?_
      rintro e wb ⟨rfl, hbb⟩
      have hwb := below_tr hbr hbb
      go_wp2_with fail
      go_roundw
      case rel => exact ⟨5, by omega, rfl, hwb⟩
      case measure => simp [intOf]
    · have q0 : wr.cell? ⟨g, 5, none⟩ = some (.string (⟨#[45, 57, 50, 50, 51, 51, 55, 50, 48, 51, 54, 56, 53, 52, 55, 55, 53, 56, 48, 57]⟩)) := by rw [hbr.cell hg0]; exact q 5 _ rfl
      clear q HQ
      go_wp2_with fail
      refine (none_is (⟨#[45, 57, 50, 50, 51, 51, 55, 50, 48, 51, 54, 56, 53, 52, 55, 55, 53, 56, 48, 57]⟩) (by decide) (by decide +kernel) _ hgr).mono ?_
      rintro e wb ⟨rfl, hbb⟩
      have hwb := below_tr hbr hbb
      go_wp2_with fail
      go_roundw
      case rel => exact ⟨6, by omega, rfl, hwb⟩
      case measure => simp [intOf]
    · have q0 : wr.cell? ⟨g, 6, none⟩ = some (.string (⟨#[49, 32]⟩)) := by rw [hbr.cell hg0]; exact q 6 _ rfl
      clear q HQ
      go_wp2_with fail
      refine (none_is (⟨#[49, 32]⟩) (by decide) (by decide +kernel) _ hgr).mono ?_
      rintro e wb ⟨rfl, hbb⟩
      have hwb := below_tr hbr hbb
      go_wp2_with fail
      go_roundw
      case rel => exact ⟨7, by omega, rfl, hwb⟩
      case measure => simp [intOf]
    · have q0 : wr.cell? ⟨g, 7, none⟩ = some (.string (⟨#[32, 49]⟩)) := by rw [hbr.cell hg0]; exact q 7 _ rfl
      clear q HQ
      go_wp2_with fail
      refine (none_is (⟨#[32, 49]⟩) (by decide) (by decide +kernel) _ hgr).mono ?_
      rintro e wb ⟨rfl, hbb⟩
      have hwb := below_tr hbr hbb
      go_wp2_with fail
      go_roundw
      case rel => exact ⟨8, by omega, rfl, hwb⟩
      case measure => simp [intOf]
    · have q0 : wr.cell? ⟨g, 8, none⟩ = some (.string (⟨#[39]⟩)) := by rw [hbr.cell hg0]; exact q 8 _ rfl
      clear q HQ
      go_wp2_with fail
      refine (none_is (⟨#[39]⟩) (by decide) (by decide +kernel) _ hgr).mono ?_
      rintro e wb ⟨rfl, hbb⟩
      have hwb := below_tr hbr hbb
      go_wp2_with fail
      go_roundw
      case rel => exact ⟨9, by omega, rfl, hwb⟩
      case measure => simp [intOf]
    · have q0 : wr.cell? ⟨g, 9, none⟩ = some (.string (⟨#[39, 39, 39]⟩)) := by rw [hbr.cell hg0]; exact q 9 _ rfl
      clear q HQ
      go_wp2_with fail
      refine (none_is (⟨#[39, 39, 39]⟩) (by decide) (by decide +kernel) _ hgr).mono ?_
      rintro e wb ⟨rfl, hbb⟩
      have hwb := below_tr hbr hbb
      go_wp2_with fail
      go_roundw
      case rel => exact ⟨10, by omega, rfl, hwb⟩
      case measure => simp [intOf]
    · have q0 : wr.cell? ⟨g, 10, none⟩ = some (.string (⟨#[39, 97, 39, 98, 39]⟩)) := by rw [hbr.cell hg0]; exact q 10 _ rfl
      clear q HQ
      go_wp2_with fail
      refine (none_is (⟨#[39, 97, 39, 98, 39]⟩) (by decide) (by decide +kernel) _ hgr).mono ?_
      rintro e wb ⟨rfl, hbb⟩
      have hwb := below_tr hbr hbb
      go_wp2_with fail
      go_roundw
      case rel => exact ⟨11, by omega, rfl, hwb⟩
      case measure => simp [intOf]
    · have q0 : wr.cell? ⟨g, 11, none⟩ = some (.string (⟨#[91]⟩)) := by rw [hbr.cell hg0]; exact q 11 _ rfl
      clear q HQ
      go_wp2_with fail
      refine (none_is (⟨#[91]⟩) (by decide) (by decide +kernel) _ hgr).mono ?_
      rintro e wb ⟨rfl, hbb⟩
      have hwb := below_tr hbr hbb
      go_wp2_with fail
      go_roundw
      case rel => exact ⟨12, by omega, rfl, hwb⟩
      case measure => simp [intOf]
    · have q0 : wr.cell? ⟨g, 12, none⟩ = some (.string (⟨#[91, 49]⟩)) := by rw [hbr.cell hg0]; exact q 12 _ rfl
      clear q HQ
      go_wp2_with fail
      refine (none_is (⟨#[91, 49]⟩) (by decide) (by decide +kernel) _ hgr).mono ?_
      rintro e wb ⟨rfl, hbb⟩
      have hwb := below_tr hbr hbb
      go_wp2_with fail
      go_roundw
      case rel => exact ⟨13, by omega, rfl, hwb⟩
      case measure => simp [intOf]
    · have q0 : wr.cell? ⟨g, 13, none⟩ = some (.string (⟨#[91, 49, 44]⟩)) := by rw [hbr.cell hg0]; exact q 13 _ rfl
      clear q HQ
      go_wp2_with fail
      refine (none_is (⟨#[91, 49, 44]⟩) (by decide) (by decide +kernel) _ hgr).mono ?_
      rintro e wb ⟨rfl, hbb⟩
      have hwb := below_tr hbr hbb
      go_wp2_with fail
      go_roundw
      case rel => exact ⟨14, by omega, rfl, hwb⟩
      case measure => simp [intOf]
    · have q0 : wr.cell? ⟨g, 14, none⟩ = some (.string (⟨#[91, 49, 44, 50]⟩)) := by rw [hbr.cell hg0]; exact q 14 _ rfl
      clear q HQ
      go_wp2_with fail
      refine (none_is (⟨#[91, 49, 44, 50]⟩) (by decide) (by decide +kernel) _ hgr).mono ?_
      rintro e wb ⟨rfl, hbb⟩
      have hwb := below_tr hbr hbb
      go_wp2_with fail
      go_roundw
      case rel => exact ⟨15, by omega, rfl, hwb⟩
      case measure => simp [intOf]
    · have q0 : wr.cell? ⟨g, 15, none⟩ = some (.string (⟨#[91, 49, 44, 50, 93]⟩)) := by rw [hbr.cell hg0]; exact q 15 _ rfl
      clear q HQ
      go_wp2_with fail
      refine (none_is (⟨#[91, 49, 44, 50, 93]⟩) (by decide) (by decide +kernel) _ hgr).mono ?_
      rintro e wb ⟨rfl, hbb⟩
      have hwb := below_tr hbr hbb
      go_wp2_with fail
      go_roundw
      case rel => exact ⟨16, by omega, rfl, hwb⟩
      case measure => simp [intOf]
    · have q0 : wr.cell? ⟨g, 16, none⟩ = some (.string (⟨#[91, 50, 44, 49, 41]⟩)) := by rw [hbr.cell hg0]; exact q 16 _ rfl
      clear q HQ
      go_wp2_with fail
      refine (none_is (⟨#[91, 50, 44, 49, 41]⟩) (by decide) (by decide +kernel) _ hgr).mono ?_
      rintro e wb ⟨rfl, hbb⟩
      have hwb := below_tr hbr hbb
      go_wp2_with fail
      go_roundw
      case rel => exact ⟨17, by omega, rfl, hwb⟩
      case measure => simp [intOf]
    · have q0 : wr.cell? ⟨g, 17, none⟩ = some (.string (⟨#[91, 49, 44, 48, 50, 41]⟩)) := by rw [hbr.cell hg0]; exact q 17 _ rfl
      clear q HQ
      go_wp2_with fail
      refine (none_is (⟨#[91, 49, 44, 48, 50, 41]⟩) (by decide) (by decide +kernel) _ hgr).mono ?_
      rintro e wb ⟨rfl, hbb⟩
      have hwb := below_tr hbr hbb
      go_wp2_with fail
      go_roundw
      case rel => exact ⟨18, by omega, rfl, hwb⟩
      case measure => simp [intOf]
    · have q0 : wr.cell? ⟨g, 18, none⟩ = some (.string (⟨#[91, 49, 44, 50, 41, 41]⟩)) := by rw [hbr.cell hg0]; exact q 18 _ rfl
      clear q HQ
      go_wp2_with fail
      refine (none_is (⟨#[91, 49, 44, 50, 41, 41]⟩) (by decide) (by decide +kernel) _ hgr).mono ?_
      rintro e wb ⟨rfl, hbb⟩
      have hwb := below_tr hbr hbb
      go_wp2_with fail
      go_roundw
      case rel => exact ⟨19, by omega, rfl, hwb⟩
      case measure => simp [intOf]
    · have q0 : wr.cell? ⟨g, 19, none⟩ = some (.string (⟨#[91, 44, 41]⟩)) := by rw [hbr.cell hg0]; exact q 19 _ rfl
      clear q HQ
      go_wp2_with fail
      refine (none_is (⟨#[91, 44, 41]⟩) (by decide) (by decide +kernel) _ hgr).mono ?_
      rintro e wb ⟨rfl, hbb⟩
      have hwb := below_tr hbr hbb
      go_wp2_with fail
      go_roundw
      case rel => exact ⟨20, by omega, rfl, hwb⟩
      case measure => simp [intOf]
    · have q0 : wr.cell? ⟨g, 20, none⟩ = some (.string (⟨#[45]⟩)) := by rw [hbr.cell hg0]; exact q 20 _ rfl
      clear q HQ
      go_wp2_with fail
      refine (none_is (⟨#[45]⟩) (by decide) (by decide +kernel) _ hgr).mono ?_
      rintro e wb ⟨rfl, hbb⟩
      have hwb := below_tr hbr hbb
      go_wp2_with fail
      go_roundw
      case rel => exact ⟨21, by omega, rfl, hwb⟩
      case measure => simp [intOf]
    · have q0 : wr.cell? ⟨g, 21, none⟩ = some (.string (⟨#[49, 46, 48]⟩)) := by rw [hbr.cell hg0]; exact q 21 _ rfl
      clear q HQ
      go_wp2_with fail
      refine (none_is (⟨#[49, 46, 48]⟩) (by decide) (by decide +kernel) _ hgr).mono ?_
      rintro e wb ⟨rfl, hbb⟩
      have hwb := below_tr hbr hbb
      go_wp2_with fail
      go_roundw
      case rel => exact ⟨22, by omega, rfl, hwb⟩
      case measure => simp [intOf]
    · have q0 : wr.cell? ⟨g, 22, none⟩ = some (.string (⟨#[39]⟩ ++ Z ++ ⟨#[120, 39]⟩)) := by rw [hbr.cell hg0]; exact q 22 _ rfl
      clear q HQ
      go_wp2_with fail
      refine (none_long Z hZ HZ3.out _ hgr).mono ?_
      rintro e wb ⟨rfl, hbb⟩
      have hwb := below_tr hbr hbb
      go_wp2_with fail
      go_roundw
      case rel => exact ⟨23, by omega, rfl, hwb⟩
      case measure => simp [intOf]
    · clear q HQ
      have hdr := below_tr hd hbr
      clear hbr hd hgA
      go_wp2_with fail
      have hd := below_tr hdr (Below.allocs wr (.cells #[.int .u8 0, .int .i64 1, .int .i64 0, .string (⟨#[]⟩), .int .u8 2, .int .i64 2, .int .i64 0, .string (⟨#[]⟩), .int .u8 2, .int .i64 (-1), .int .i64 0, .string (⟨#[]⟩), .int .u8 1, .int .i64 0, .int .i64 1, .string (⟨#[]⟩), .int .u8 1, .int .i64 0, .int .i64 0, .string (⟨#[97]⟩), .int .u8 3, .int .i64 1, .int .i64 0, .string (⟨#[]⟩), .int .u8 3, .int .i64 0, .int .i64 0, .string (Z ++ ⟨#[120]⟩), .int .u8 4, .int .i64 1, .int .i64 1, .string (⟨#[]⟩), .int .u8 4, .int .i64 0, .int .i64 1, .string (⟨#[97]⟩), .int .u8 5, .int .i64 0, .int .i64 0, .string (⟨#[]⟩), .int .u8 255, .int .i64 0, .int .i64 0, .string (⟨#[]⟩)] 26))
      have q : ∀ j v, (#[.int .u8 0, .int .i64 1, .int .i64 0, .string (⟨#[]⟩), .int .u8 2, .int .i64 2, .int .i64 0, .string (⟨#[]⟩), .int .u8 2, .int .i64 (-1), .int .i64 0, .string (⟨#[]⟩), .int .u8 1, .int .i64 0, .int .i64 1, .string (⟨#[]⟩), .int .u8 1, .int .i64 0, .int .i64 0, .string (⟨#[97]⟩), .int .u8 3, .int .i64 1, .int .i64 0, .string (⟨#[]⟩), .int .u8 3, .int .i64 0, .int .i64 0, .string (Z ++ ⟨#[120]⟩), .int .u8 4, .int .i64 1, .int .i64 1, .string (⟨#[]⟩), .int .u8 4, .int .i64 0, .int .i64 1, .string (⟨#[97]⟩), .int .u8 5, .int .i64 0, .int .i64 0, .string (⟨#[]⟩), .int .u8 255, .int .i64 0, .int .i64 0, .string (⟨#[]⟩)] : Array Value)[j]? = some v → (wr.alloc (.cells #[.int .u8 0, .int .i64 1, .int .i64 0, .string (⟨#[]⟩), .int .u8 2, .int .i64 2, .int .i64 0, .string (⟨#[]⟩), .int .u8 2, .int .i64 (-1), .int .i64 0, .string (⟨#[]⟩), .int .u8 1, .int .i64 0, .int .i64 1, .string (⟨#[]⟩), .int .u8 1, .int .i64 0, .int .i64 0, .string (⟨#[97]⟩), .int .u8 3, .int .i64 1, .int .i64 0, .string (⟨#[]⟩), .int .u8 3, .int .i64 0, .int .i64 0, .string (Z ++ ⟨#[120]⟩), .int .u8 4, .int .i64 1, .int .i64 1, .string (⟨#[]⟩), .int .u8 4, .int .i64 0, .int .i64 1, .string (⟨#[97]⟩), .int .u8 5, .int .i64 0, .int .i64 0, .string (⟨#[]⟩), .int .u8 255, .int .i64 0, .int .i64 0, .string (⟨#[]⟩)] 26)).cell? ⟨wr.heap.size, j, none⟩ = some v := fun j v h => by rw [World.cell?_alloc_at _ _ _ _ rfl]; exact h
      have hh0 : wr.heap.size < (wr.alloc (.cells #[.int .u8 0, .int .i64 1, .int .i64 0, .string (⟨#[]⟩), .int .u8 2, .int .i64 2, .int .i64 0, .string (⟨#[]⟩), .int .u8 2, .int .i64 (-1), .int .i64 0, .string (⟨#[]⟩), .int .u8 1, .int .i64 0, .int .i64 1, .string (⟨#[]⟩), .int .u8 1, .int .i64 0, .int .i64 0, .string (⟨#[97]⟩), .int .u8 3, .int .i64 1, .int .i64 0, .string (⟨#[]⟩), .int .u8 3, .int .i64 0, .int .i64 0, .string (Z ++ ⟨#[120]⟩), .int .u8 4, .int .i64 1, .int .i64 1, .string (⟨#[]⟩), .int .u8 4, .int .i64 0, .int .i64 1, .string (⟨#[97]⟩), .int .u8 5, .int .i64 0, .int .i64 0, .string (⟨#[]⟩), .int .u8 255, .int .i64 0, .int .i64 0, .string (⟨#[]⟩)] 26)).heap.size := by simp
      generalize wr.alloc (.cells #[.int .u8 0, .int .i64 1, .int .i64 0, .string (⟨#[]⟩), .int .u8 2, .int .i64 2, .int .i64 0, .string (⟨#[]⟩), .int .u8 2, .int .i64 (-1), .int .i64 0, .string (⟨#[]⟩), .int .u8 1, .int .i64 0, .int .i64 1, .string (⟨#[]⟩), .int .u8 1, .int .i64 0, .int .i64 0, .string (⟨#[97]⟩), .int .u8 3, .int .i64 1, .int .i64 0, .string (⟨#[]⟩), .int .u8 3, .int .i64 0, .int .i64 0, .string (Z ++ ⟨#[120]⟩), .int .u8 4, .int .i64 1, .int .i64 1, .string (⟨#[]⟩), .int .u8 4, .int .i64 0, .int .i64 1, .string (⟨#[97]⟩), .int .u8 5, .int .i64 0, .int .i64 0, .string (⟨#[]⟩), .int .u8 255, .int .i64 0, .int .i64 0, .string (⟨#[]⟩)] 26) = W1 at *
      generalize wr.heap.size = h at *
      have HQ := Lib.hid q
      clear q hdr hgr hg0
      go_loopw [98] (fun c wr => ∃ i : Int, (0 ≤ i ∧ i ≤ 11) ∧ c = .int .i64 i ∧ Below W1.heap.size W1 wr) (fun c _ => 11 - (intOf c).toNat)
      case atStart => exact ⟨0, by omega, rfl, Below.refl _ _⟩
      case round =>
        obtain ⟨i, hi4, rfl, hbr⟩ := hrel
        have q := HQ.out
        have hi5 : i = 0 ∨ i = 1 ∨ i = 2 ∨ i = 3 ∨ i = 4 ∨ i = 5 ∨ i = 6 ∨ i = 7 ∨ i = 8 ∨ i = 9 ∨ i = 10 ∨ i = 11 := by omega
        clear hi4
        rcases hi5 with rfl | rfl | rfl | rfl | rfl | rfl | rfl | rfl | rfl | rfl | rfl | rfl
        · -- value 0
          have q0 : wr.cell? ⟨h, 0, none⟩ = some (.int .u8 0) := by rw [hbr.cell hh0]; exact q 0 _ rfl
          have q1 : wr.cell? ⟨h, 1, none⟩ = some (.int .i64 1) := by rw [hbr.cell hh0]; exact q 1 _ rfl
          have q2 : wr.cell? ⟨h, 2, none⟩ = some (.int .i64 0) := by rw [hbr.cell hh0]; exact q 2 _ rfl
          have q3 : wr.cell? ⟨h, 3, none⟩ = some (.string (⟨#[]⟩)) := by rw [hbr.cell hh0]; exact q 3 _ rfl
          clear q HQ
          have HM : Hid (mayB 0 1 0 (⟨#[]⟩ : ByteArray).data.toList = false) := Lib.hid (by decide +kernel)
          go_wp2_with fail
          refine (may_is 0 1 0 (⟨#[]⟩) _ false HM.out).mono ?_
          rintro e wa ⟨rfl, hba⟩
          have hwa := below_tr (below_tr hbr (Below.allocs wr (.cells #[.int .u8 0, .int .i64 1, .int .i64 0, .string (⟨#[]⟩)] 26))) hba
          have B1 := (Boxed.new wr 0 1 0 (⟨#[]⟩) 26).below hba
          obtain ⟨x0, x1, x2, x3, x4⟩ := id B1
          go_wp2_with fail
          refine (text_none 0 1 0 (⟨#[]⟩) HM.out _).mono ?_
          rintro e wb ⟨rfl, hbb⟩
          have hwb := below_tr hwa hbb
          have B2 := B1.below hbb
          clear x0 x1 x2 x3 x4 B1
          obtain ⟨x0, x1, x2, x3, x4⟩ := id B2
          go_wp2_with fail
          refine (fits_none 0 1 0 (⟨#[]⟩) 1 HM.out _).mono ?_
          rintro e wc ⟨rfl, hbc⟩
          have hwc := below_tr hwb hbc
          have B3 := B2.below hbc
          clear x0 x1 x2 x3 x4 B2
          obtain ⟨x0, x1, x2, x3, x4⟩ := B3
          go_wp2_with fail
          refine (fits_none 0 1 0 (⟨#[]⟩) 0 HM.out _).mono ?_
          rintro e we ⟨rfl, hbe⟩
          have hwe := below_tr hwc hbe
          go_wp2_with fail
          go_roundw
          case rel => exact ⟨1, by omega, rfl, hwe⟩
          case measure => simp [intOf]
        · -- value 1
          have q0 : wr.cell? ⟨h, 4, none⟩ = some (.int .u8 2) := by rw [hbr.cell hh0]; exact q 4 _ rfl
          have q1 : wr.cell? ⟨h, 5, none⟩ = some (.int .i64 2) := by rw [hbr.cell hh0]; exact q 5 _ rfl
          have q2 : wr.cell? ⟨h, 6, none⟩ = some (.int .i64 0) := by rw [hbr.cell hh0]; exact q 6 _ rfl
          have q3 : wr.cell? ⟨h, 7, none⟩ = some (.string (⟨#[]⟩)) := by rw [hbr.cell hh0]; exact q 7 _ rfl
          clear q HQ
          have HM : Hid (mayB 2 2 0 (⟨#[]⟩ : ByteArray).data.toList = false) := Lib.hid (by decide +kernel)
          go_wp2_with fail
          refine (may_is 2 2 0 (⟨#[]⟩) _ false HM.out).mono ?_
          rintro e wa ⟨rfl, hba⟩
          have hwa := below_tr (below_tr hbr (Below.allocs wr (.cells #[.int .u8 2, .int .i64 2, .int .i64 0, .string (⟨#[]⟩)] 26))) hba
          have B1 := (Boxed.new wr 2 2 0 (⟨#[]⟩) 26).below hba
          obtain ⟨x0, x1, x2, x3, x4⟩ := id B1
          go_wp2_with fail
          refine (text_none 2 2 0 (⟨#[]⟩) HM.out _).mono ?_
          rintro e wb ⟨rfl, hbb⟩
          have hwb := below_tr hwa hbb
          have B2 := B1.below hbb
          clear x0 x1 x2 x3 x4 B1
          obtain ⟨x0, x1, x2, x3, x4⟩ := id B2
          go_wp2_with fail
          refine (fits_none 2 2 0 (⟨#[]⟩) 1 HM.out _).mono ?_
          rintro e wc ⟨rfl, hbc⟩
          have hwc := below_tr hwb hbc
          have B3 := B2.below hbc
          clear x0 x1 x2 x3 x4 B2
          obtain ⟨x0, x1, x2, x3, x4⟩ := B3
          go_wp2_with fail
          refine (fits_none 2 2 0 (⟨#[]⟩) 2 HM.out _).mono ?_
          rintro e we ⟨rfl, hbe⟩
          have hwe := below_tr hwc hbe
          go_wp2_with fail
          go_roundw
          case rel => exact ⟨2, by omega, rfl, hwe⟩
          case measure => simp [intOf]
        · -- value 2
          have q0 : wr.cell? ⟨h, 8, none⟩ = some (.int .u8 2) := by rw [hbr.cell hh0]; exact q 8 _ rfl
          have q1 : wr.cell? ⟨h, 9, none⟩ = some (.int .i64 (-1)) := by rw [hbr.cell hh0]; exact q 9 _ rfl
          have q2 : wr.cell? ⟨h, 10, none⟩ = some (.int .i64 0) := by rw [hbr.cell hh0]; exact q 10 _ rfl
          have q3 : wr.cell? ⟨h, 11, none⟩ = some (.string (⟨#[]⟩)) := by rw [hbr.cell hh0]; exact q 11 _ rfl
          clear q HQ
          have HM : Hid (mayB 2 (-1) 0 (⟨#[]⟩ : ByteArray).data.toList = false) := Lib.hid (by decide +kernel)
          go_wp2_with fail
          refine (may_is 2 (-1) 0 (⟨#[]⟩) _ false HM.out).mono ?_
          rintro e wa ⟨rfl, hba⟩
          have hwa := below_tr (below_tr hbr (Below.allocs wr (.cells #[.int .u8 2, .int .i64 (-1), .int .i64 0, .string (⟨#[]⟩)] 26))) hba
          have B1 := (Boxed.new wr 2 (-1) 0 (⟨#[]⟩) 26).below hba
          obtain ⟨x0, x1, x2, x3, x4⟩ := id B1
          go_wp2_with fail
          refine (text_none 2 (-1) 0 (⟨#[]⟩) HM.out _).mono ?_
          rintro e wb ⟨rfl, hbb⟩
          have hwb := below_tr hwa hbb
          have B2 := B1.below hbb
          clear x0 x1 x2 x3 x4 B1
          obtain ⟨x0, x1, x2, x3, x4⟩ := id B2
          go_wp2_with fail
          refine (fits_none 2 (-1) 0 (⟨#[]⟩) 1 HM.out _).mono ?_
          rintro e wc ⟨rfl, hbc⟩
          have hwc := below_tr hwb hbc
          have B3 := B2.below hbc
          clear x0 x1 x2 x3 x4 B2
          obtain ⟨x0, x1, x2, x3, x4⟩ := B3
          go_wp2_with fail
          refine (fits_none 2 (-1) 0 (⟨#[]⟩) 2 HM.out _).mono ?_
          rintro e we ⟨rfl, hbe⟩
          have hwe := below_tr hwc hbe
          go_wp2_with fail
          go_roundw
          case rel => exact ⟨3, by omega, rfl, hwe⟩
          case measure => simp [intOf]
        · -- value 3
          have q0 : wr.cell? ⟨h, 12, none⟩ = some (.int .u8 1) := by rw [hbr.cell hh0]; exact q 12 _ rfl
          have q1 : wr.cell? ⟨h, 13, none⟩ = some (.int .i64 0) := by rw [hbr.cell hh0]; exact q 13 _ rfl
          have q2 : wr.cell? ⟨h, 14, none⟩ = some (.int .i64 1) := by rw [hbr.cell hh0]; exact q 14 _ rfl
          have q3 : wr.cell? ⟨h, 15, none⟩ = some (.string (⟨#[]⟩)) := by rw [hbr.cell hh0]; exact q 15 _ rfl
          clear q HQ
          have HM : Hid (mayB 1 0 1 (⟨#[]⟩ : ByteArray).data.toList = false) := Lib.hid (by decide +kernel)
          go_wp2_with fail
          refine (may_is 1 0 1 (⟨#[]⟩) _ false HM.out).mono ?_
          rintro e wa ⟨rfl, hba⟩
          have hwa := below_tr (below_tr hbr (Below.allocs wr (.cells #[.int .u8 1, .int .i64 0, .int .i64 1, .string (⟨#[]⟩)] 26))) hba
          have B1 := (Boxed.new wr 1 0 1 (⟨#[]⟩) 26).below hba
          obtain ⟨x0, x1, x2, x3, x4⟩ := id B1
          go_wp2_with fail
          refine (text_none 1 0 1 (⟨#[]⟩) HM.out _).mono ?_
          rintro e wb ⟨rfl, hbb⟩
          have hwb := below_tr hwa hbb
          have B2 := B1.below hbb
          clear x0 x1 x2 x3 x4 B1
          obtain ⟨x0, x1, x2, x3, x4⟩ := id B2
          go_wp2_with fail
          refine (fits_none 1 0 1 (⟨#[]⟩) 1 HM.out _).mono ?_
          rintro e wc ⟨rfl, hbc⟩
          have hwc := below_tr hwb hbc
          have B3 := B2.below hbc
          clear x0 x1 x2 x3 x4 B2
          obtain ⟨x0, x1, x2, x3, x4⟩ := B3
          go_wp2_with fail
          refine (fits_none 1 0 1 (⟨#[]⟩) 1 HM.out _).mono ?_
          rintro e we ⟨rfl, hbe⟩
          have hwe := below_tr hwc hbe
          go_wp2_with fail
          go_roundw
          case rel => exact ⟨4, by omega, rfl, hwe⟩
          case measure => simp [intOf]
        · -- value 4
          have q0 : wr.cell? ⟨h, 16, none⟩ = some (.int .u8 1) := by rw [hbr.cell hh0]; exact q 16 _ rfl
          have q1 : wr.cell? ⟨h, 17, none⟩ = some (.int .i64 0) := by rw [hbr.cell hh0]; exact q 17 _ rfl
          have q2 : wr.cell? ⟨h, 18, none⟩ = some (.int .i64 0) := by rw [hbr.cell hh0]; exact q 18 _ rfl
          have q3 : wr.cell? ⟨h, 19, none⟩ = some (.string (⟨#[97]⟩)) := by rw [hbr.cell hh0]; exact q 19 _ rfl
          clear q HQ
          have HM : Hid (mayB 1 0 0 (⟨#[97]⟩ : ByteArray).data.toList = false) := Lib.hid (by decide +kernel)
          go_wp2_with fail
          refine (may_is 1 0 0 (⟨#[97]⟩) _ false HM.out).mono ?_
          rintro e wa ⟨rfl, hba⟩
          have hwa := below_tr (below_tr hbr (Below.allocs wr (.cells #[.int .u8 1, .int .i64 0, .int .i64 0, .string (⟨#[97]⟩)] 26))) hba
          have B1 := (Boxed.new wr 1 0 0 (⟨#[97]⟩) 26).below hba
          obtain ⟨x0, x1, x2, x3, x4⟩ := id B1
          go_wp2_with fail
          refine (text_none 1 0 0 (⟨#[97]⟩) HM.out _).mono ?_
          rintro e wb ⟨rfl, hbb⟩
          have hwb := below_tr hwa hbb
          have B2 := B1.below hbb
          clear x0 x1 x2 x3 x4 B1
          obtain ⟨x0, x1, x2, x3, x4⟩ := id B2
          go_wp2_with fail
          refine (fits_none 1 0 0 (⟨#[97]⟩) 1 HM.out _).mono ?_
          rintro e wc ⟨rfl, hbc⟩
          have hwc := below_tr hwb hbc
          have B3 := B2.below hbc
          clear x0 x1 x2 x3 x4 B2
          obtain ⟨x0, x1, x2, x3, x4⟩ := B3
          go_wp2_with fail
          refine (fits_none 1 0 0 (⟨#[97]⟩) 1 HM.out _).mono ?_
          rintro e we ⟨rfl, hbe⟩
          have hwe := below_tr hwc hbe
          go_wp2_with fail
          go_roundw
          case rel => exact ⟨5, by omega, rfl, hwe⟩
          case measure => simp [intOf]
        · -- value 5
          have q0 : wr.cell? ⟨h, 20, none⟩ = some (.int .u8 3) := by rw [hbr.cell hh0]; exact q 20 _ rfl
          have q1 : wr.cell? ⟨h, 21, none⟩ = some (.int .i64 1) := by rw [hbr.cell hh0]; exact q 21 _ rfl
          have q2 : wr.cell? ⟨h, 22, none⟩ = some (.int .i64 0) := by rw [hbr.cell hh0]; exact q 22 _ rfl
          have q3 : wr.cell? ⟨h, 23, none⟩ = some (.string (⟨#[]⟩)) := by rw [hbr.cell hh0]; exact q 23 _ rfl
          clear q HQ
          have HM : Hid (mayB 3 1 0 (⟨#[]⟩ : ByteArray).data.toList = false) := Lib.hid (by decide +kernel)
          go_wp2_with fail
          refine (may_is 3 1 0 (⟨#[]⟩) _ false HM.out).mono ?_
          rintro e wa ⟨rfl, hba⟩
          have hwa := below_tr (below_tr hbr (Below.allocs wr (.cells #[.int .u8 3, .int .i64 1, .int .i64 0, .string (⟨#[]⟩)] 26))) hba
          have B1 := (Boxed.new wr 3 1 0 (⟨#[]⟩) 26).below hba
          obtain ⟨x0, x1, x2, x3, x4⟩ := id B1
          go_wp2_with fail
          refine (text_none 3 1 0 (⟨#[]⟩) HM.out _).mono ?_
          rintro e wb ⟨rfl, hbb⟩
          have hwb := below_tr hwa hbb
          have B2 := B1.below hbb
          clear x0 x1 x2 x3 x4 B1
          obtain ⟨x0, x1, x2, x3, x4⟩ := id B2
          go_wp2_with fail
          refine (fits_none 3 1 0 (⟨#[]⟩) 1 HM.out _).mono ?_
          rintro e wc ⟨rfl, hbc⟩
          have hwc := below_tr hwb hbc
          have B3 := B2.below hbc
          clear x0 x1 x2 x3 x4 B2
          obtain ⟨x0, x1, x2, x3, x4⟩ := B3
          go_wp2_with fail
          refine (fits_none 3 1 0 (⟨#[]⟩) 3 HM.out _).mono ?_
          rintro e we ⟨rfl, hbe⟩
          have hwe := below_tr hwc hbe
          go_wp2_with fail
          go_roundw
          case rel => exact ⟨6, by omega, rfl, hwe⟩
          case measure => simp [intOf]
        · -- value 6
          have q0 : wr.cell? ⟨h, 24, none⟩ = some (.int .u8 3) := by rw [hbr.cell hh0]; exact q 24 _ rfl
          have q1 : wr.cell? ⟨h, 25, none⟩ = some (.int .i64 0) := by rw [hbr.cell hh0]; exact q 25 _ rfl
          have q2 : wr.cell? ⟨h, 26, none⟩ = some (.int .i64 0) := by rw [hbr.cell hh0]; exact q 26 _ rfl
          have q3 : wr.cell? ⟨h, 27, none⟩ = some (.string (Z ++ ⟨#[120]⟩)) := by rw [hbr.cell hh0]; exact q 27 _ rfl
          clear q HQ
          have HM : Hid (mayB 3 0 0 (Z ++ ⟨#[120]⟩ : ByteArray).data.toList = false) := HZ4
          go_wp2_with fail
          refine (may_long Z HZ4 _).mono ?_
          rintro e wa ⟨rfl, hba⟩
          have hwa := below_tr (below_tr hbr (Below.allocs wr (.cells #[.int .u8 3, .int .i64 0, .int .i64 0, .string (Z ++ ⟨#[120]⟩)] 26))) hba
          have B1 := (Boxed.new wr 3 0 0 (Z ++ ⟨#[120]⟩) 26).below hba
          obtain ⟨x0, x1, x2, x3, x4⟩ := id B1
          go_wp2_with fail
          refine (text_long Z HZ4 _).mono ?_
          rintro e wb ⟨rfl, hbb⟩
          have hwb := below_tr hwa hbb
          have B2 := B1.below hbb
          clear x0 x1 x2 x3 x4 B1
          obtain ⟨x0, x1, x2, x3, x4⟩ := id B2
          go_wp2_with fail
          refine (fits_long Z 1 HZ4 _).mono ?_
          rintro e wc ⟨rfl, hbc⟩
          have hwc := below_tr hwb hbc
          have B3 := B2.below hbc
          clear x0 x1 x2 x3 x4 B2
          obtain ⟨x0, x1, x2, x3, x4⟩ := B3
          go_wp2_with fail
          refine (fits_long Z 3 HZ4 _).mono ?_
          rintro e we ⟨rfl, hbe⟩
          have hwe := below_tr hwc hbe
          go_wp2_with fail
          go_roundw
          case rel => exact ⟨7, by omega, rfl, hwe⟩
          case measure => simp [intOf]
        · -- value 7
          have q0 : wr.cell? ⟨h, 28, none⟩ = some (.int .u8 4) := by rw [hbr.cell hh0]; exact q 28 _ rfl
          have q1 : wr.cell? ⟨h, 29, none⟩ = some (.int .i64 1) := by rw [hbr.cell hh0]; exact q 29 _ rfl
          have q2 : wr.cell? ⟨h, 30, none⟩ = some (.int .i64 1) := by rw [hbr.cell hh0]; exact q 30 _ rfl
          have q3 : wr.cell? ⟨h, 31, none⟩ = some (.string (⟨#[]⟩)) := by rw [hbr.cell hh0]; exact q 31 _ rfl
          clear q HQ
          have HM : Hid (mayB 4 1 1 (⟨#[]⟩ : ByteArray).data.toList = false) := Lib.hid (by decide +kernel)
          go_wp2_with fail
          refine (may_is 4 1 1 (⟨#[]⟩) _ false HM.out).mono ?_
          rintro e wa ⟨rfl, hba⟩
          have hwa := below_tr (below_tr hbr (Below.allocs wr (.cells #[.int .u8 4, .int .i64 1, .int .i64 1, .string (⟨#[]⟩)] 26))) hba
          have B1 := (Boxed.new wr 4 1 1 (⟨#[]⟩) 26).below hba
          obtain ⟨x0, x1, x2, x3, x4⟩ := id B1
          go_wp2_with fail
          refine (text_none 4 1 1 (⟨#[]⟩) HM.out _).mono ?_
          rintro e wb ⟨rfl, hbb⟩
          have hwb := below_tr hwa hbb
          have B2 := B1.below hbb
          clear x0 x1 x2 x3 x4 B1
          obtain ⟨x0, x1, x2, x3, x4⟩ := id B2
          go_wp2_with fail
          refine (fits_none 4 1 1 (⟨#[]⟩) 1 HM.out _).mono ?_
          rintro e wc ⟨rfl, hbc⟩
          have hwc := below_tr hwb hbc
          have B3 := B2.below hbc
          clear x0 x1 x2 x3 x4 B2
          obtain ⟨x0, x1, x2, x3, x4⟩ := B3
          go_wp2_with fail
          refine (fits_none 4 1 1 (⟨#[]⟩) 4 HM.out _).mono ?_
          rintro e we ⟨rfl, hbe⟩
          have hwe := below_tr hwc hbe
          go_wp2_with fail
          go_roundw
          case rel => exact ⟨8, by omega, rfl, hwe⟩
          case measure => simp [intOf]
        · -- value 8
          have q0 : wr.cell? ⟨h, 32, none⟩ = some (.int .u8 4) := by rw [hbr.cell hh0]; exact q 32 _ rfl
          have q1 : wr.cell? ⟨h, 33, none⟩ = some (.int .i64 0) := by rw [hbr.cell hh0]; exact q 33 _ rfl
          have q2 : wr.cell? ⟨h, 34, none⟩ = some (.int .i64 1) := by rw [hbr.cell hh0]; exact q 34 _ rfl
          have q3 : wr.cell? ⟨h, 35, none⟩ = some (.string (⟨#[97]⟩)) := by rw [hbr.cell hh0]; exact q 35 _ rfl
          clear q HQ
          have HM : Hid (mayB 4 0 1 (⟨#[97]⟩ : ByteArray).data.toList = false) := Lib.hid (by decide +kernel)
          go_wp2_with fail
          refine (may_is 4 0 1 (⟨#[97]⟩) _ false HM.out).mono ?_
          rintro e wa ⟨rfl, hba⟩
          have hwa := below_tr (below_tr hbr (Below.allocs wr (.cells #[.int .u8 4, .int .i64 0, .int .i64 1, .string (⟨#[97]⟩)] 26))) hba
          have B1 := (Boxed.new wr 4 0 1 (⟨#[97]⟩) 26).below hba
          obtain ⟨x0, x1, x2, x3, x4⟩ := id B1
          go_wp2_with fail
          refine (text_none 4 0 1 (⟨#[97]⟩) HM.out _).mono ?_
          rintro e wb ⟨rfl, hbb⟩
          have hwb := below_tr hwa hbb
          have B2 := B1.below hbb
          clear x0 x1 x2 x3 x4 B1
          obtain ⟨x0, x1, x2, x3, x4⟩ := id B2
          go_wp2_with fail
          refine (fits_none 4 0 1 (⟨#[97]⟩) 1 HM.out _).mono ?_
          rintro e wc ⟨rfl, hbc⟩
          have hwc := below_tr hwb hbc
          have B3 := B2.below hbc
          clear x0 x1 x2 x3 x4 B2
          obtain ⟨x0, x1, x2, x3, x4⟩ := B3
          go_wp2_with fail
          refine (fits_none 4 0 1 (⟨#[97]⟩) 4 HM.out _).mono ?_
          rintro e we ⟨rfl, hbe⟩
          have hwe := below_tr hwc hbe
          go_wp2_with fail
          go_roundw
          case rel => exact ⟨9, by omega, rfl, hwe⟩
          case measure => simp [intOf]
        · -- value 9
          have q0 : wr.cell? ⟨h, 36, none⟩ = some (.int .u8 5) := by rw [hbr.cell hh0]; exact q 36 _ rfl
          have q1 : wr.cell? ⟨h, 37, none⟩ = some (.int .i64 0) := by rw [hbr.cell hh0]; exact q 37 _ rfl
          have q2 : wr.cell? ⟨h, 38, none⟩ = some (.int .i64 0) := by rw [hbr.cell hh0]; exact q 38 _ rfl
          have q3 : wr.cell? ⟨h, 39, none⟩ = some (.string (⟨#[]⟩)) := by rw [hbr.cell hh0]; exact q 39 _ rfl
          clear q HQ
          have HM : Hid (mayB 5 0 0 (⟨#[]⟩ : ByteArray).data.toList = false) := Lib.hid (by decide +kernel)
          go_wp2_with fail
          refine (may_is 5 0 0 (⟨#[]⟩) _ false HM.out).mono ?_
          rintro e wa ⟨rfl, hba⟩
          have hwa := below_tr (below_tr hbr (Below.allocs wr (.cells #[.int .u8 5, .int .i64 0, .int .i64 0, .string (⟨#[]⟩)] 26))) hba
          have B1 := (Boxed.new wr 5 0 0 (⟨#[]⟩) 26).below hba
          obtain ⟨x0, x1, x2, x3, x4⟩ := id B1
          go_wp2_with fail
          refine (text_none 5 0 0 (⟨#[]⟩) HM.out _).mono ?_
          rintro e wb ⟨rfl, hbb⟩
          have hwb := below_tr hwa hbb
          have B2 := B1.below hbb
          clear x0 x1 x2 x3 x4 B1
          obtain ⟨x0, x1, x2, x3, x4⟩ := id B2
          go_wp2_with fail
          refine (fits_none 5 0 0 (⟨#[]⟩) 1 HM.out _).mono ?_
          rintro e wc ⟨rfl, hbc⟩
          have hwc := below_tr hwb hbc
          have B3 := B2.below hbc
          clear x0 x1 x2 x3 x4 B2
          obtain ⟨x0, x1, x2, x3, x4⟩ := B3
          go_wp2_with fail
          refine (fits_none 5 0 0 (⟨#[]⟩) 5 HM.out _).mono ?_
          rintro e we ⟨rfl, hbe⟩
          have hwe := below_tr hwc hbe
          go_wp2_with fail
          go_roundw
          case rel => exact ⟨10, by omega, rfl, hwe⟩
          case measure => simp [intOf]
        · -- value 10
          have q0 : wr.cell? ⟨h, 40, none⟩ = some (.int .u8 255) := by rw [hbr.cell hh0]; exact q 40 _ rfl
          have q1 : wr.cell? ⟨h, 41, none⟩ = some (.int .i64 0) := by rw [hbr.cell hh0]; exact q 41 _ rfl
          have q2 : wr.cell? ⟨h, 42, none⟩ = some (.int .i64 0) := by rw [hbr.cell hh0]; exact q 42 _ rfl
          have q3 : wr.cell? ⟨h, 43, none⟩ = some (.string (⟨#[]⟩)) := by rw [hbr.cell hh0]; exact q 43 _ rfl
          clear q HQ
          have HM : Hid (mayB 255 0 0 (⟨#[]⟩ : ByteArray).data.toList = false) := Lib.hid (by decide +kernel)
          go_wp2_with fail
          refine (may_is 255 0 0 (⟨#[]⟩) _ false HM.out).mono ?_
          rintro e wa ⟨rfl, hba⟩
          have hwa := below_tr (below_tr hbr (Below.allocs wr (.cells #[.int .u8 255, .int .i64 0, .int .i64 0, .string (⟨#[]⟩)] 26))) hba
          have B1 := (Boxed.new wr 255 0 0 (⟨#[]⟩) 26).below hba
          obtain ⟨x0, x1, x2, x3, x4⟩ := id B1
          go_wp2_with fail
          refine (text_none 255 0 0 (⟨#[]⟩) HM.out _).mono ?_
          rintro e wb ⟨rfl, hbb⟩
          have hwb := below_tr hwa hbb
          have B2 := B1.below hbb
          clear x0 x1 x2 x3 x4 B1
          obtain ⟨x0, x1, x2, x3, x4⟩ := id B2
          go_wp2_with fail
          refine (fits_none 255 0 0 (⟨#[]⟩) 1 HM.out _).mono ?_
          rintro e wc ⟨rfl, hbc⟩
          have hwc := below_tr hwb hbc
          have B3 := B2.below hbc
          clear x0 x1 x2 x3 x4 B2
          obtain ⟨x0, x1, x2, x3, x4⟩ := B3
          go_wp2_with fail
          refine (fits_none 255 0 0 (⟨#[]⟩) 255 HM.out _).mono ?_
          rintro e we ⟨rfl, hbe⟩
          have hwe := below_tr hwc hbe
          go_wp2_with fail
          go_roundw
          case rel => exact ⟨11, by omega, rfl, hwe⟩
          case measure => simp [intOf]
        · clear q HQ
          have hz0 := below_tr hd hbr
          clear hbr hd
          go_wp2_with fail
          refine (fits_is 0 0 0 ⟨#[]⟩ 0 false (by decide +kernel) _).mono ?_
          rintro e v0 ⟨rfl, hv0⟩
          have hz1 := below_tr hz0 hv0
          clear hz0 hv0
          go_wp2_with fail
          refine (fits_is 0 0 0 ⟨#[]⟩ 5 false (by decide +kernel) _).mono ?_
          rintro e v1 ⟨rfl, hv1⟩
          have hz2 := below_tr hz1 hv1
          clear hz1 hv1
          go_wp2_with fail
          refine (fits_is 0 0 0 ⟨#[]⟩ 4 true (by decide +kernel) _).mono ?_
          rintro e v2 ⟨rfl, hv2⟩
          have hz3 := below_tr hz2 hv2
          clear hz2 hv2
          go_wp2_with fail
          refine (fits_is 2 0 0 ⟨#[]⟩ 2 true (by decide +kernel) _).mono ?_
          rintro e v3 ⟨rfl, hv3⟩
          have hz4 := below_tr hz3 hv3
          clear hz3 hv3
          go_wp2_with fail
          refine (fits_is 2 0 0 ⟨#[]⟩ 1 false (by decide +kernel) _).mono ?_
          rintro e v4 ⟨rfl, hv4⟩
          have hz5 := below_tr hz4 hv4
          clear hz4 hv4
          go_wp2_with fail
          go_ret
          exact ⟨rfl, hz5⟩

end Go.Proofs.YtpnnkgjgkcgagaaDoor
