/-
  What the document's own covenantref01.Digits answers, as walks over this translation.
-/
import Derived.Test.YtenpjfkiehcjlaaGreatDoorVRef
import Derived.Test.YtenpjfkiehcjlaaGreatDoorRegV
namespace Go.Proofs.YtenpjfkiehcjlaaGreatDoor
open Go.RowKit

theorem conv_one (w : World) (b c : Nat) (x : Int) (h : w.cell? ⟨b, 0, none⟩ = some (.int .u8 x)) :
    Sem.run Tryz.prog (convert 70 9 (.slice (some ⟨b, 0, none⟩) 1 c)) w = .ok (.string ⟨#[UInt8.ofNat x.toNat]⟩) w := by
  have := run_convert_bytes_arg (P := Tryz.prog) w 70 5 (by kernel_rfl) (by kernel_rfl) b 0 1 c [x] rfl (fun i hi => by
    obtain rfl : i = 0 := by omega
    exact h) 9 (by kernel_rfl)
  exact this

theorem tdiv_pos (u : Nat) : (u : Int).tdiv 10 = ((u / 10 : Nat) : Int) := rfl
theorem tmod_pos (u : Nat) : (u : Int).tmod 10 = ((u % 10 : Nat) : Int) := rfl
theorem tdiv_minus (u : Nat) : (-(u : Int)).tdiv 10 = -((u / 10 : Nat) : Int) := by rw [Int.neg_tdiv, tdiv_pos]
theorem tmod_minus (u : Nat) : (-(u : Int)).tmod 10 = -((u % 10 : Nat) : Int) := by rw [Int.neg_tmod, tmod_pos]

theorem dec_more (u : Nat) (h : 10 ≤ u) : Lib.decDigits u = Lib.decDigits (u / 10) ++ [UInt8.ofNat (48 + u % 10)] := by
  rw [Lib.decDigits, dif_neg (by omega)]

/-- A slice of one new byte. -/
def OneByte (x : Int) (w : World) (v : Value) : Prop := ∃ b, v = .slice (some ⟨b, 0, none⟩) 1 1 ∧ b < w.heap.size ∧ w.cell? ⟨b, 0, none⟩ = some (.int .u8 x)

theorem OneByte.stays {x : Int} {w w' : World} {v : Value} (h : Below w.heap.size w w') (hv : OneByte x w v) : OneByte x w' v := by
  obtain ⟨b, e, h1, h2⟩ := hv
  exact ⟨b, e, Nat.lt_of_lt_of_le h1 h.size, by rw [h.cell h1]; exact h2⟩

theorem OneByte.new (x : Int) (w : World) (t : TypeId) : OneByte x (w.alloc (.cells #[.int .u8 x] t)) (.slice (some ⟨w.heap.size, 0, none⟩) 1 1) :=
  ⟨w.heap.size, rfl, by simp, by simp⟩

set_option maxRecDepth 100000 in
set_option maxHeartbeats 1000000 in
theorem digits_one (n : Int) (h0 : 0 ≤ n) (h1 : n < 10) (w : World) :
    Calls Tryz.prog 64 #[.int .i64 n] w fun e w' => e = .returned (.string ⟨(Lib.itoa n).toArray⟩) ∧ Below w.heap.size w w' := by
  have e : ¬ n < 0 := by omega
  have hcv := conv_one (w.alloc (.cells #[.int .u8 (48 + n)] 5)) w.heap.size 1 (48 + n) (by simp)
  go_enter Tryz.func64, Tryz.ntmps64
  go_wp2_with fail
  go_ret
  refine ⟨?_, (Below.refl _ _).alloc (Nat.le_refl _) _⟩
  obtain ⟨u, rfl⟩ : ∃ u : Nat, n = u := ⟨n.toNat, by omega⟩
  rw [Lib.itoa_nonneg, Lib.decDigits_one (by omega)]
  rfl

set_option maxRecDepth 100000 in
set_option maxHeartbeats 1000000 in
theorem digits_minus (n : Int) (h0 : n < 0) (h1 : -10 < n) (w : World) :
    Calls Tryz.prog 64 #[.int .i64 n] w fun e w' => e = .returned (.string ⟨(Lib.itoa n).toArray⟩) ∧ Below w.heap.size w w' := by
  obtain ⟨u, hu, hu2, rfl⟩ : ∃ u : Nat, 1 ≤ u ∧ u < 10 ∧ n = -(u : Int) := ⟨(-n).toNat, by omega, by omega, by omega⟩
  have e1 : (-(u : Int)).tdiv 10 = 0 := by rw [tdiv_minus]; omega
  have e2 : (-(u : Int)).tmod 10 = -(u : Int) := by rw [tmod_minus]; omega
  have hcv := conv_one (w.alloc (.cells #[.int .u8 (48 + (u : Int))] 5)) w.heap.size 1 (48 + (u : Int)) (by simp)
  obtain ⟨c, hc⟩ : ∃ c : UInt8, UInt8.ofNat (48 + (u : Int)).toNat = c := ⟨_, rfl⟩
  rw [hc] at hcv
  go_enter Tryz.func64, Tryz.ntmps64
  go_wp2_with fail
  go_ret
  refine ⟨?_, (Below.refl _ _).alloc (Nat.le_refl _) _⟩
  have hc2 : UInt8.ofNat (48 + u) = c := hc
  rw [Lib.itoa_neg u hu, Lib.decDigits_one hu2, hc2]
  exact congrArg (fun b => Ending.returned (.string b)) (ba_app [45] [c])

/-- What the induction has: the digits of what is left without the last one. -/
def DigIH (n : Int) : Prop := ∀ w : World, Calls Tryz.prog 64 #[.int .i64 n] w fun e w' => e = .returned (.string ⟨(Lib.itoa n).toArray⟩) ∧ Below w.heap.size w w'

set_option maxRecDepth 100000 in
set_option maxHeartbeats 2000000 in
theorem digits_more (u : Nat) (h0 : 10 ≤ u) (h1 : (u : Int) ≤ 9223372036854775807) (ih : DigIH ((u / 10 : Nat) : Int)) : DigIH (u : Int) := by
  intro w
  have e : ¬ (u : Int) < 0 := by omega
  have e0 : ¬ (u : Int) < 10 := by omega
  have e1 : (u : Int).tdiv 10 = ((u / 10 : Nat) : Int) := tdiv_pos u
  have e2 : (u : Int).tmod 10 = ((u % 10 : Nat) : Int) := tmod_pos u
  obtain ⟨q, hq⟩ : ∃ q, u / 10 = q := ⟨_, rfl⟩
  obtain ⟨r, hr⟩ : ∃ r, u % 10 = r := ⟨_, rfl⟩
  rw [hq] at e1 ih
  rw [hr] at e2
  have hr2 : r < 10 := by omega
  have hl := Lib.itoa_length_le (q : Int) (by omega) (by omega)
  have w1 : IntKind.i64.wrap (q : Int) = q := IntWalk.i64_in _ (by omega)
  have w2 : IntKind.i64.wrap (r : Int) = r := IntWalk.i64_in _ (by omega)
  have w3 : IntKind.i64.wrap (48 + (r : Int)) = 48 + (r : Int) := IntWalk.i64_in _ (by omega)
  have w4 : IntKind.u8.wrap (48 + (r : Int)) = 48 + (r : Int) := IntWalk.u8_in _ (by omega)
  go_enter Tryz.func64, Tryz.ntmps64
  go_wp2_with fail
  apply wp_region_plan (fun w w' => Below w.heap.size w w') [.it _, .it _, .it _, .it _, .it _, .it _, .it _, .of (OneByte (48 + (r : Int))), .it (.string ⟨#[UInt8.ofNat (48 + (r : Int)).toNat]⟩), .it (.string (⟨(Lib.itoa (q : Int)).toArray⟩ ++ ⟨#[UInt8.ofNat (48 + (r : Int)).toNat]⟩)), .it (.string (⟨(Lib.itoa (q : Int)).toArray⟩ ++ ⟨#[UInt8.ofNat (48 + (r : Int)).toNat]⟩))] (by kernel_rfl) (by kernel_rfl) (fun w => Below.refl _ _) (fun _ _ _ => below_tr)
  refine seqP_value (fun w => Below.refl _ _) ?_ (by rfl) (fun w' hw' hctx => ?_) ?_
  rotate_left
  · go_simp
    first | with_reducible rfl | rw [if_neg (by omega)]
  simp only [Act.put, List.setIfInBounds_toArray, List.set_cons_zero, List.set_cons_succ]
  refine seqP_value (fun w => Below.refl _ _) ?_ (by rfl) (fun w' hw' hctx => ?_) ?_
  rotate_left
  · go_simp
    first | with_reducible rfl | rw [if_neg (by omega)]
  simp only [Act.put, List.setIfInBounds_toArray, List.set_cons_zero, List.set_cons_succ]
  refine seqP_call 64 #[.int .i64 (q : Int)] (.string ⟨(Lib.itoa (q : Int)).toArray⟩) (by rfl) (fun w' hw' hctx => ?_) (fun w' hw' hctx => ih w') ?_
  · go_simp
  simp only [Act.put, List.setIfInBounds_toArray, List.set_cons_zero, List.set_cons_succ]
  refine seqP_value (fun w => Below.refl _ _) ?_ (by rfl) (fun w' hw' hctx => ?_) ?_
  rotate_left
  · go_simp
    first | with_reducible rfl | rw [if_neg (by omega)]
  simp only [Act.put, List.setIfInBounds_toArray, List.set_cons_zero, List.set_cons_succ]
  refine seqP_value (fun w => Below.refl _ _) ?_ (by rfl) (fun w' hw' hctx => ?_) ?_
  rotate_left
  · go_simp
    first | with_reducible rfl | rw [if_neg (by omega)]
  simp only [Act.put, List.setIfInBounds_toArray, List.set_cons_zero, List.set_cons_succ]
  refine seqP_value (fun w => Below.refl _ _) ?_ (by rfl) (fun w' hw' hctx => ?_) ?_
  rotate_left
  · go_simp
    first | with_reducible rfl | rw [if_neg (by omega)]
  simp only [Act.put, List.setIfInBounds_toArray, List.set_cons_zero, List.set_cons_succ]
  refine seqP_value (fun w => Below.refl _ _) ?_ (by rfl) (fun w' hw' hctx => ?_) ?_
  rotate_left
  · go_simp
    first | with_reducible rfl | rw [if_neg (by omega)]
  simp only [Act.put, List.setIfInBounds_toArray, List.set_cons_zero, List.set_cons_succ]
  refine seqP_make (OneByte (48 + (r : Int))) (fun _ _ _ => OneByte.stays) (by rfl) (fun w' hw' hctx => ?_) (fun v => ?_)
  · exact ⟨_, _, by go_simp; first | with_reducible rfl | rfl, (Below.refl _ _).alloc (Nat.le_refl _) _, OneByte.new _ _ _⟩
  simp only [Act.put, List.setIfInBounds_toArray, List.set_cons_zero, List.set_cons_succ]
  refine seqP_value (fun w => Below.refl _ _) _ (by rfl) (fun w' hw' hctx => ?_) ?_
  · obtain ⟨b, rfl, hb, hc⟩ : OneByte (48 + (r : Int)) w' v := hctx.1
    have hcv := conv_one w' b 1 _ hc
    go_simp
    try first | with_reducible rfl | rw [if_neg (by omega)] | omega
  simp only [Act.put, List.setIfInBounds_toArray, List.set_cons_zero, List.set_cons_succ]
  refine seqP_value (fun w => Below.refl _ _) _ (by rfl) (fun w' hw' hctx => ?_) ?_
  · go_simp
    try first | with_reducible rfl | rw [if_neg (by omega)] | omega
  simp only [Act.put, List.setIfInBounds_toArray, List.set_cons_zero, List.set_cons_succ]
  refine seqP_value (fun w => Below.refl _ _) _ (by rfl) (fun w' hw' hctx => ?_) ?_
  · go_simp
    try first | with_reducible rfl | rw [if_neg (by omega)] | omega
  simp only [Act.put, List.setIfInBounds_toArray, List.set_cons_zero, List.set_cons_succ]
  refine seqP_nil fun w' hw' _ => ?_
  go_wp2_with fail
  go_ret
  refine ⟨?_, below_tr (Below.refl _ _).drew hw'⟩
  have hf : (⟨(Lib.itoa (u : Int)).toArray⟩ : ByteArray) = ⟨(Lib.itoa (q : Int)).toArray⟩ ++ ⟨#[UInt8.ofNat (48 + (r : Int)).toNat]⟩ := by
    rw [Lib.itoa_nonneg u, Lib.itoa_nonneg q, dec_more u h0, hq, hr, ← ba_app]
    rfl
  rw [hf]
  rfl

set_option maxRecDepth 100000 in
set_option maxHeartbeats 2000000 in
theorem digits_less (u : Nat) (h0 : 10 ≤ u) (h1 : (u : Int) ≤ 9223372036854775808) (ih : DigIH (-((u / 10 : Nat) : Int))) : DigIH (-(u : Int)) := by
  intro w
  have e : -(u : Int) < 0 := by omega
  have e1 : (-(u : Int)).tdiv 10 = -((u / 10 : Nat) : Int) := tdiv_minus u
  have e2 : (-(u : Int)).tmod 10 = -((u % 10 : Nat) : Int) := tmod_minus u
  obtain ⟨q, hq⟩ : ∃ q, u / 10 = q := ⟨_, rfl⟩
  obtain ⟨r, hr⟩ : ∃ r, u % 10 = r := ⟨_, rfl⟩
  rw [hq] at e1 ih
  rw [hr] at e2
  have hr2 : r < 10 := by omega
  have hq0 : 1 ≤ q := by omega
  have e3 : (-(q : Int) == 0) = false := by simp; omega
  have hl := Lib.itoa_length_le (-(q : Int)) (by omega) (by omega)
  have w1 : IntKind.i64.wrap (-(q : Int)) = -q := IntWalk.i64_in _ (by omega)
  have w2 : IntKind.i64.wrap (-(r : Int)) = -r := IntWalk.i64_in _ (by omega)
  have w2' : IntKind.i64.wrap (r : Int) = r := IntWalk.i64_in _ (by omega)
  have w3 : IntKind.i64.wrap (48 + (r : Int)) = 48 + (r : Int) := IntWalk.i64_in _ (by omega)
  have w4 : IntKind.u8.wrap (48 + (r : Int)) = 48 + (r : Int) := IntWalk.u8_in _ (by omega)
  go_enter Tryz.func64, Tryz.ntmps64
  go_wp2_with fail
  apply wp_region_plan (fun w w' => Below w.heap.size w w') [.it _, .it _, .it _, .it _, .it _, .of (OneByte (48 + (r : Int))), .it (.string ⟨#[UInt8.ofNat (48 + (r : Int)).toNat]⟩), .it (.string (⟨(Lib.itoa (-(q : Int))).toArray⟩ ++ ⟨#[UInt8.ofNat (48 + (r : Int)).toNat]⟩)), .it (.string (⟨(Lib.itoa (-(q : Int))).toArray⟩ ++ ⟨#[UInt8.ofNat (48 + (r : Int)).toNat]⟩))] (by kernel_rfl) (by kernel_rfl) (fun w => Below.refl _ _) (fun _ _ _ => below_tr)
  refine seqP_value (fun w => Below.refl _ _) ?_ (by rfl) (fun w' hw' hctx => ?_) ?_
  rotate_left
  · go_simp
    first | with_reducible rfl | rw [if_neg (by omega)]
  simp only [Act.put, List.setIfInBounds_toArray, List.set_cons_zero, List.set_cons_succ]
  refine seqP_call 64 #[.int .i64 (-(q : Int))] (.string ⟨(Lib.itoa (-(q : Int))).toArray⟩) (by rfl) (fun w' hw' hctx => ?_) (fun w' hw' hctx => ih w') ?_
  · go_simp
  simp only [Act.put, List.setIfInBounds_toArray, List.set_cons_zero, List.set_cons_succ]
  refine seqP_value (fun w => Below.refl _ _) ?_ (by rfl) (fun w' hw' hctx => ?_) ?_
  rotate_left
  · go_simp
    first | with_reducible rfl | rw [if_neg (by omega)]
  simp only [Act.put, List.setIfInBounds_toArray, List.set_cons_zero, List.set_cons_succ]
  refine seqP_value (fun w => Below.refl _ _) ?_ (by rfl) (fun w' hw' hctx => ?_) ?_
  rotate_left
  · go_simp
    first | with_reducible rfl | rw [if_neg (by omega)]
  simp only [Act.put, List.setIfInBounds_toArray, List.set_cons_zero, List.set_cons_succ]
  refine seqP_value (fun w => Below.refl _ _) ?_ (by rfl) (fun w' hw' hctx => ?_) ?_
  rotate_left
  · go_simp
    first | with_reducible rfl | rw [if_neg (by omega)]
  simp only [Act.put, List.setIfInBounds_toArray, List.set_cons_zero, List.set_cons_succ]
  refine seqP_make (OneByte (48 + (r : Int))) (fun _ _ _ => OneByte.stays) (by rfl) (fun w' hw' hctx => ?_) (fun v => ?_)
  · exact ⟨_, _, by go_simp; first | with_reducible rfl | rfl, (Below.refl _ _).alloc (Nat.le_refl _) _, OneByte.new _ _ _⟩
  simp only [Act.put, List.setIfInBounds_toArray, List.set_cons_zero, List.set_cons_succ]
  refine seqP_value (fun w => Below.refl _ _) _ (by rfl) (fun w' hw' hctx => ?_) ?_
  · obtain ⟨b, rfl, hb, hc⟩ : OneByte (48 + (r : Int)) w' v := hctx.1
    have hcv := conv_one w' b 1 _ hc
    go_simp
    try first | with_reducible rfl | rw [if_neg (by omega)] | omega
  simp only [Act.put, List.setIfInBounds_toArray, List.set_cons_zero, List.set_cons_succ]
  refine seqP_value (fun w => Below.refl _ _) _ (by rfl) (fun w' hw' hctx => ?_) ?_
  · go_simp
    try first | with_reducible rfl | rw [if_neg (by omega)] | omega
  simp only [Act.put, List.setIfInBounds_toArray, List.set_cons_zero, List.set_cons_succ]
  refine seqP_value (fun w => Below.refl _ _) _ (by rfl) (fun w' hw' hctx => ?_) ?_
  · go_simp
    try first | with_reducible rfl | rw [if_neg (by omega)] | omega
  simp only [Act.put, List.setIfInBounds_toArray, List.set_cons_zero, List.set_cons_succ]
  refine seqP_nil fun w' hw' _ => ?_
  go_wp2_with fail
  go_ret
  refine ⟨?_, below_tr (Below.refl _ _).drew hw'⟩
  have hf : (⟨(Lib.itoa (-(u : Int))).toArray⟩ : ByteArray) = ⟨(Lib.itoa (-(q : Int))).toArray⟩ ++ ⟨#[UInt8.ofNat (48 + (r : Int)).toNat]⟩ := by
    rw [Lib.itoa_neg u (by omega), Lib.itoa_neg q hq0, dec_more u h0, hq, hr, ← List.cons_append, ← ba_app]
    rfl
  rw [hf]
  rfl

theorem digits_nat : ∀ (fuel u : Nat), u < fuel → ((u : Int) ≤ 9223372036854775807 → DigIH (u : Int)) ∧ ((u : Int) ≤ 9223372036854775808 → DigIH (-(u : Int)))
  | 0, _, h => by omega
  | fuel + 1, u, h => by
    by_cases h10 : u < 10
    · refine ⟨fun _ w => digits_one u (by omega) (by omega) w, fun _ w => ?_⟩
      by_cases h0 : u = 0
      · subst h0
        exact digits_one 0 (by omega) (by omega) w
      · exact digits_minus (-(u : Int)) (by omega) (by omega) w
    · have ih := digits_nat fuel (u / 10) (by omega)
      exact ⟨fun h1 => digits_more u (by omega) h1 (ih.1 (by omega)), fun h1 => digits_less u (by omega) h1 (ih.2 (by omega))⟩

theorem digits_any (n : Int) (h0 : -9223372036854775808 ≤ n) (h1 : n ≤ 9223372036854775807) (w : World) :
    Calls Tryz.prog 64 #[.int .i64 n] w fun e w' => e = .returned (.string ⟨(Lib.itoa n).toArray⟩) ∧ Below w.heap.size w w' := by
  by_cases h : 0 ≤ n
  · obtain ⟨u, rfl⟩ : ∃ u : Nat, n = u := ⟨n.toNat, by omega⟩
    exact (digits_nat (u + 1) u (by omega)).1 h1 w
  · obtain ⟨u, rfl⟩ : ∃ u : Nat, n = -(u : Int) := ⟨(-n).toNat, by omega⟩
    exact (digits_nat (u + 1) u (by omega)).2 (by omega) w


end Go.Proofs.YtenpjfkiehcjlaaGreatDoor
