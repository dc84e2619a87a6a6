/-
  Package key's own: is a list long; a key's values, picked out of a row; texts made anew; is a key complete; are two the same.
-/
import Derived.Test.YtenpjfkiehcjlaaGreatDoorKMay
import Derived.Test.YtenpjfkiehcjlaaGreatDoorKEq
import Derived.Laws.OwnMore
namespace Go.Proofs.YtenpjfkiehcjlaaGreatDoor
open Go.RowKit

def longB (l : List Val) : Bool := decide (60 < l.length) || l.any fun x => decide (1000 < x.t.size)

theorem long_not {l : List Val} (h : longB l = false) : l.length ≤ 60 ∧ ∀ x ∈ l, x.t.size ≤ 1000 := by
  unfold longB at h
  rw [Bool.or_eq_false_iff, decide_eq_false_iff_not] at h
  refine ⟨by omega, fun x hx => ?_⟩
  have := List.any_eq_false.mp h.2 x hx
  simpa using this

set_option maxRecDepth 100000 in
set_option maxHeartbeats 1000000 in
theorem long_is (a : Option Addr) (c n : Nat) (l : List Val) (z : Bool) (hn : l.length = n) (hz : longB l = z) (w : World) (h1 : SlL w a c l) :
    Calls Tryz.prog 4 #[.slice a n c] w fun e w' => e = .returned (.bool z) ∧ Below w.heap.size w w' := by
  have HA := Lib.hid h1
  have HN := Lib.hid hn
  have HZ := Lib.hid hz
  clear h1 hn hz
  by_cases h60 : 60 < n
  · have h60z : 60 < (n : Int) := by omega
    obtain rfl : z = true := by rw [← HZ.out, longB, HN.out]; simp [h60]
    go_enter Tryz.func4, Tryz.ntmps4
    go_wp2_with fail
    go_ret
    exact ⟨rfl, Below.refl _ _⟩
  · have h60z : ¬ 60 < (n : Int) := by omega
    go_enter Tryz.func4, Tryz.ntmps4
    go_wp2_with fail
    go_loopg [3] n (fun gg s3 wr => ∃ p : Nat, s3 = .int .i64 p ∧ p ≤ n ∧ n - p ≤ gg ∧ Hid (∀ x ∈ l.take p, x.t.size ≤ 1000) ∧ Hid (wr = w))
    case atStart => exact ⟨0, rfl, Nat.zero_le _, by omega, Lib.hid (by simp), Lib.hid rfl⟩
    case round =>
      obtain ⟨p, rfl, hpn, hgg, HT, BW⟩ := hrel
      obtain rfl := BW.out
      by_cases hlt : p < n
      · have hltz : (p : Int) < (n : Int) := by omega
        have z1 : ¬ n ≤ p := by omega
        obtain ⟨x, hx⟩ := get_is (l := l) (i := p) (by rw [HN.out]; exact hlt)
        obtain ⟨b, o, rfl, d0, d1, d2, d3, d4⟩ := at_l HA.out hx
        have hts := (get_wf HA.out.wf hx).t
        have HX := Lib.hid hx
        clear hx
        by_cases ht : 1000 < x.t.size
        · have htz : 1000 < (x.t.size : Int) := by omega
          go_wp2_with fail
          go_ret
          obtain rfl : z = true := by
            rw [← HZ.out, longB, Bool.or_eq_true]
            exact .inr (List.any_eq_true.mpr ⟨x, List.mem_of_getElem? HX.out, by simpa using ht⟩)
          exact ⟨rfl, Below.refl _ _⟩
        · have htz : ¬ 1000 < (x.t.size : Int) := by omega
          go_wp2_with fail
          go_roundg (n - (p + 1))
          case measure => omega
          case rel =>
            refine ⟨p + 1, by go_num, by omega, Nat.le_refl _, Lib.hid ?_, Lib.hid rfl⟩
            intro y hy
            rw [List.take_add_one, HX.out] at hy
            rcases List.mem_append.mp hy with h | h
            · exact HT.out y h
            · simp at h; subst h; omega
      · have hltz : ¬ (p : Int) < (n : Int) := by omega
        go_wp2_with fail
        go_ret
        obtain rfl : z = false := by
          rw [← HZ.out, longB, HN.out, Bool.or_eq_false_iff]
          refine ⟨by simp; omega, List.any_eq_false.mpr fun x hx => ?_⟩
          have := HT.out x (by rw [List.take_of_length_le (by rw [HN.out]; omega)]; exact hx)
          simp; omega
        exact ⟨rfl, Below.refl _ _⟩

theorem num_is (n : Int) (w : World) : Calls Tryz.prog 22 #[.int .i64 n] w fun e w' => e = .returned (.agg #[.int .u8 1, .int .i64 n, .int .i64 0, .string ⟨#[]⟩]) ∧ Below w.heap.size w w' := by
  go_enter Tryz.func22, Tryz.ntmps22
  go_wp2
  exact bodyPost_ret (v := .agg #[.int .u8 1, .int .i64 n, .int .i64 0, .string ⟨#[]⟩]) (by simp [results, Tryz.results22, go_sem]) rfl ⟨rfl, Below.allocs _ _⟩

theorem ltext_is (t : ByteArray) (w : World) : Calls Tryz.prog 23 #[.string t] w fun e w' => e = .returned (.agg #[.int .u8 3, .int .i64 0, .int .i64 0, .string t]) ∧ Below w.heap.size w w' := by
  go_enter Tryz.func23, Tryz.ntmps23
  go_wp2
  exact bodyPost_ret (v := .agg #[.int .u8 3, .int .i64 0, .int .i64 0, .string t]) (by simp [results, Tryz.results23, go_sem]) rfl ⟨rfl, Below.allocs _ _⟩

/-! ### Values picked out of a row -/

theorem make_v (w : World) (n : Nat) (hn : n ≤ 1000000) : ∃ w', (Instr.makeSlice 22 (.int .i64 (n : Int)) (.int .i64 (n : Int))).run Tryz.prog w = .ok (.slice (some ⟨w.heap.size, 0, none⟩) n n) w' ∧ Own w' w.heap.size (List.replicate n Val.zero) ∧ Below w.heap.size w w' := by
  obtain ⟨i0, hi, hz0, hz1, hz2⟩ := info_parts info_v
  obtain ⟨w', hrun, r1, r2⟩ := run_make_full (P := Tryz.prog) w w.heap.size 22 37 i0 (.agg #[.int .u8 0, .int .i64 0, .int .i64 0, .string ⟨#[]⟩]) 4 Tryz.underlying22 hi hz0 hz1 .i64 .i64 n (by rw [hz2]; omega) (by unfold maxLen; omega) (Nat.le_refl _)
  have hb := (Below.refl w.heap.size w).grown r2 (Nat.le_refl _) (fun k e => by cases e)
  refine ⟨w', hrun, ?_, hb⟩
  rcases r1.2 with ⟨h1, _⟩ | ⟨g, cap, cur, h1, hbg, hg, hnc, hcm, hcs, hxs⟩
  · cases h1
  · injection h1 with h1 h2 h3
    injection h1 with h1
    injection h1 with h1
    subst h1
    subst h3
    refine ⟨fun i x hx => atV_of (fun c u hu => ?_) (some_lt hg), fun t => by simp [World.frozen?, show w'.heap[w.heap.size]? = _ from hg], some_lt hg⟩
    have hi' : i < n := by have := (List.getElem?_eq_some_iff.mp hx).1; simpa using this
    have hx' : x = Val.zero := by
      obtain ⟨h1, h2⟩ := List.getElem?_eq_some_iff.mp hx
      simp at h2
      exact h2.symm
    subst hx'
    have hc : c < 4 := by have := (List.getElem?_eq_some_iff.1 hu).1; simpa [encV] using this
    have hm : (madeCells (.agg #[.int .u8 0, .int .i64 0, .int .i64 0, .string ⟨#[]⟩] : Value).cells (n * 4)).toList[i * 4 + c]? = some u := by
      have hlt : i * 4 + c < n * 4 := by omega
      have hmod : (i * 4 + c) % 4 = c := by omega
      simp [madeCells, Value.cells, hlt, hmod]
      match c, hc, hu with
      | 0, _, hu => simpa [encV, Val.zero] using hu
      | 1, _, hu => simpa [encV, Val.zero] using hu
      | 2, _, hu => simpa [encV, Val.zero] using hu
      | 3, _, hu => simpa [encV, Val.zero] using hu
    rw [← hxs, List.getElem?_take_of_lt (by omega)] at hm
    rw [Nat.zero_add]
    simp [World.cell?, show w'.heap[w.heap.size]? = _ from hg]
    simpa using hm

end Go.Proofs.YtenpjfkiehcjlaaGreatDoor
