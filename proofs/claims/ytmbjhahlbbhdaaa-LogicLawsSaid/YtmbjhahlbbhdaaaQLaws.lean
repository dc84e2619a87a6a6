/-
  The law LogicLaws as a walk over this translation: it answers true, and of what was there nothing has turned.
-/
import Derived.Test.YtmbjhahlbbhdaaaQSlice
import Derived.Deep.RegionHeld3
import Derived.Deep.DeepCutAuto
namespace Go.Proofs.Ytmbjhahlbbhdaaa
open Go.RowKit

/-! ### Truths -/

def tk : Option Bool → Int
  | none => 0
  | some _ => 2
def tn : Option Bool → Int
  | some true => 1
  | _ => 0
def notT : Option Bool → Option Bool
  | none => none
  | some b => some (!b)
def andT : Option Bool → Option Bool → Option Bool
  | some false, _ => some false
  | _, some false => some false
  | some true, some true => some true
  | _, _ => none
def orT : Option Bool → Option Bool → Option Bool
  | some true, _ => some true
  | _, some true => some true
  | some false, some false => some false
  | _, _ => none

theorem notR_t (a : Option Bool) : notR (tk a) (tn a) = ⟨tk (notT a), tn (notT a), 0⟩ := by
  rcases a with _ | (_ | _) <;> kernel_rfl
theorem andR_t (a b : Option Bool) : connectR (tk a) (tn a) (tk b) (tn b) false = ⟨tk (andT a b), tn (andT a b), 0⟩ := by
  rcases a with _ | (_ | _) <;> rcases b with _ | (_ | _) <;> kernel_rfl
theorem orR_t (a b : Option Bool) : connectR (tk a) (tn a) (tk b) (tn b) true = ⟨tk (orT a b), tn (orT a b), 0⟩ := by
  rcases a with _ | (_ | _) <;> rcases b with _ | (_ | _) <;> kernel_rfl

set_option maxHeartbeats 2000000 in
theorem not_t (a x : Option Bool) (h : notT a = x) (w : World) :
    Calls Try.prog 36 #[.agg #[.int .u8 (tk a), .int .i64 (tn a), .int .i64 0, .string ⟨#[]⟩]] w fun e w' => e = .returned (.agg #[.int .u8 (tk x), .int .i64 (tn x), .int .i64 0, .string ⟨#[]⟩]) ∧ Below w.heap.size w w' := by
  have hr := notR_t a
  rw [h] at hr
  have HR := Lib.hid hr
  clear hr h
  have hw0 := Below.refl w.heap.size w
  go_enter Try.func36, Try.ntmps36
  go_wp2_with fail
  have hn0 := Below.allocs w (.cells #[.int .u8 (tk a), .int .i64 (tn a), .int .i64 0, .string ⟨#[]⟩] 23)
  have An := Boxed.new w (tk a) (tn a) 0 ⟨#[]⟩ 23
  have hw1 := below_tr hw0 hn0
  have A1 := An
  clear An hn0
  have hn1 := Below.allocs (w.alloc (.cells #[.int .u8 (tk a), .int .i64 (tn a), .int .i64 0, .string ⟨#[]⟩] 23)) (.cells #[.int .u8 0, .int .i64 0, .int .i64 0, .string ⟨#[]⟩] 23)
  have Rn := Boxed.new (w.alloc (.cells #[.int .u8 (tk a), .int .i64 (tn a), .int .i64 0, .string ⟨#[]⟩] 23)) 0 0 0 ⟨#[]⟩ 23
  have SRn := Soft.new (w.alloc (.cells #[.int .u8 (tk a), .int .i64 (tn a), .int .i64 0, .string ⟨#[]⟩] 23)) 0 0 0 ⟨#[]⟩ 23
  rw [show (w.alloc (.cells #[.int .u8 (tk a), .int .i64 (tn a), .int .i64 0, .string ⟨#[]⟩] 23)).heap.size = w.heap.size + 1 by simp] at Rn SRn
  have A2 := A1.below hn1
  have hw2 := below_tr hw1 hn1
  clear A1
  have R2 := Rn
  clear Rn hn1
  have SR2 := SRn
  clear SRn
  refine (not_is (tk a) (tn a) 0 ⟨#[]⟩ ⟨tk x, tn x, 0⟩ HR.out _).mono ?_
  rintro e v1 ⟨rfl, hv1⟩
  have A3 := A2.below hv1
  have R3 := R2.below hv1
  have SR3 := SR2.below hv1
  have hw3 := below_tr hw2 hv1
  clear A2 R2 SR2
  clear hv1
  have r' := R3
  obtain ⟨r0, r1, r2, r3, r4⟩ := r'
  have sr' := SR3
  obtain ⟨s0, s1, s2, s3, s4⟩ := sr'
  have hwp := below_put4 hw3 (by omega : w.heap.size ≤ w.heap.size + 1) (tk x) (tn x) 0 ⟨#[]⟩
  have hn := Below.allocs (put4 v1 (w.heap.size + 1) (tk x) (tn x) 0 ⟨#[]⟩) (.cells #[.int .u8 (tk x), .int .i64 (tn x), .int .i64 0, .string ⟨#[]⟩] 23)
  have hwz := below_tr hwp hn
  obtain ⟨q0, q1, q2, q3, q4⟩ := (boxed_put4 R3 (tk x) (tn x) 0 ⟨#[]⟩).below hn
  go_wp2_with fail
  exact bodyPost_ret (w := (put4 v1 (w.heap.size + 1) (tk x) (tn x) 0 ⟨#[]⟩).alloc (.cells #[.int .u8 (tk x), .int .i64 (tn x), .int .i64 0, .string ⟨#[]⟩] 23)) (v := .agg #[.int .u8 (tk x), .int .i64 (tn x), .int .i64 0, .string ⟨#[]⟩]) (by simp [results, Try.results36, go_sem, q0, q1, q2, q3]) rfl ⟨rfl, hwz⟩

set_option maxHeartbeats 2000000 in
theorem and_t (a b x : Option Bool) (h : andT a b = x) (w : World) :
    Calls Try.prog 37 #[.agg #[.int .u8 (tk a), .int .i64 (tn a), .int .i64 0, .string ⟨#[]⟩], .agg #[.int .u8 (tk b), .int .i64 (tn b), .int .i64 0, .string ⟨#[]⟩]] w fun e w' => e = .returned (.agg #[.int .u8 (tk x), .int .i64 (tn x), .int .i64 0, .string ⟨#[]⟩]) ∧ Below w.heap.size w w' := by
  have hr := andR_t a b
  rw [h] at hr
  have HR := Lib.hid hr
  clear hr h
  have hw0 := Below.refl w.heap.size w
  go_enter Try.func37, Try.ntmps37
  go_wp2_with fail
  have hn0 := Below.allocs w (.cells #[.int .u8 (tk a), .int .i64 (tn a), .int .i64 0, .string ⟨#[]⟩] 23)
  have An := Boxed.new w (tk a) (tn a) 0 ⟨#[]⟩ 23
  have hw1 := below_tr hw0 hn0
  have A1 := An
  clear An hn0
  have hn1 := Below.allocs (w.alloc (.cells #[.int .u8 (tk a), .int .i64 (tn a), .int .i64 0, .string ⟨#[]⟩] 23)) (.cells #[.int .u8 (tk b), .int .i64 (tn b), .int .i64 0, .string ⟨#[]⟩] 23)
  have Bn := Boxed.new (w.alloc (.cells #[.int .u8 (tk a), .int .i64 (tn a), .int .i64 0, .string ⟨#[]⟩] 23)) (tk b) (tn b) 0 ⟨#[]⟩ 23
  rw [show (w.alloc (.cells #[.int .u8 (tk a), .int .i64 (tn a), .int .i64 0, .string ⟨#[]⟩] 23)).heap.size = w.heap.size + 1 by simp] at Bn
  have A2 := A1.below hn1
  have hw2 := below_tr hw1 hn1
  clear A1
  have B2 := Bn
  clear Bn hn1
  have hn2 := Below.allocs ((w.alloc (.cells #[.int .u8 (tk a), .int .i64 (tn a), .int .i64 0, .string ⟨#[]⟩] 23)).alloc (.cells #[.int .u8 (tk b), .int .i64 (tn b), .int .i64 0, .string ⟨#[]⟩] 23)) (.cells #[.int .u8 0, .int .i64 0, .int .i64 0, .string ⟨#[]⟩] 23)
  have Rn := Boxed.new ((w.alloc (.cells #[.int .u8 (tk a), .int .i64 (tn a), .int .i64 0, .string ⟨#[]⟩] 23)).alloc (.cells #[.int .u8 (tk b), .int .i64 (tn b), .int .i64 0, .string ⟨#[]⟩] 23)) 0 0 0 ⟨#[]⟩ 23
  have SRn := Soft.new ((w.alloc (.cells #[.int .u8 (tk a), .int .i64 (tn a), .int .i64 0, .string ⟨#[]⟩] 23)).alloc (.cells #[.int .u8 (tk b), .int .i64 (tn b), .int .i64 0, .string ⟨#[]⟩] 23)) 0 0 0 ⟨#[]⟩ 23
  rw [show ((w.alloc (.cells #[.int .u8 (tk a), .int .i64 (tn a), .int .i64 0, .string ⟨#[]⟩] 23)).alloc (.cells #[.int .u8 (tk b), .int .i64 (tn b), .int .i64 0, .string ⟨#[]⟩] 23)).heap.size = w.heap.size + 1 + 1 by simp] at Rn SRn
  have A3 := A2.below hn2
  have B3 := B2.below hn2
  have hw3 := below_tr hw2 hn2
  clear A2 B2
  have R3 := Rn
  clear Rn hn2
  have SR3 := SRn
  clear SRn
  refine (and_is (tk a) (tn a) 0 ⟨#[]⟩ (tk b) (tn b) 0 ⟨#[]⟩ ⟨tk x, tn x, 0⟩ HR.out _).mono ?_
  rintro e v1 ⟨rfl, hv1⟩
  have A4 := A3.below hv1
  have B4 := B3.below hv1
  have R4 := R3.below hv1
  have SR4 := SR3.below hv1
  have hw4 := below_tr hw3 hv1
  clear A3 B3 R3 SR3
  clear hv1
  have r' := R4
  obtain ⟨r0, r1, r2, r3, r4⟩ := r'
  have sr' := SR4
  obtain ⟨s0, s1, s2, s3, s4⟩ := sr'
  have hwp := below_put4 hw4 (by omega : w.heap.size ≤ w.heap.size + 1 + 1) (tk x) (tn x) 0 ⟨#[]⟩
  have hn := Below.allocs (put4 v1 (w.heap.size + 1 + 1) (tk x) (tn x) 0 ⟨#[]⟩) (.cells #[.int .u8 (tk x), .int .i64 (tn x), .int .i64 0, .string ⟨#[]⟩] 23)
  have hwz := below_tr hwp hn
  obtain ⟨q0, q1, q2, q3, q4⟩ := (boxed_put4 R4 (tk x) (tn x) 0 ⟨#[]⟩).below hn
  go_wp2_with fail
  exact bodyPost_ret (w := (put4 v1 (w.heap.size + 1 + 1) (tk x) (tn x) 0 ⟨#[]⟩).alloc (.cells #[.int .u8 (tk x), .int .i64 (tn x), .int .i64 0, .string ⟨#[]⟩] 23)) (v := .agg #[.int .u8 (tk x), .int .i64 (tn x), .int .i64 0, .string ⟨#[]⟩]) (by simp [results, Try.results37, go_sem, q0, q1, q2, q3]) rfl ⟨rfl, hwz⟩

set_option maxHeartbeats 2000000 in
theorem or_t (a b x : Option Bool) (h : orT a b = x) (w : World) :
    Calls Try.prog 38 #[.agg #[.int .u8 (tk a), .int .i64 (tn a), .int .i64 0, .string ⟨#[]⟩], .agg #[.int .u8 (tk b), .int .i64 (tn b), .int .i64 0, .string ⟨#[]⟩]] w fun e w' => e = .returned (.agg #[.int .u8 (tk x), .int .i64 (tn x), .int .i64 0, .string ⟨#[]⟩]) ∧ Below w.heap.size w w' := by
  have hr := orR_t a b
  rw [h] at hr
  have HR := Lib.hid hr
  clear hr h
  have hw0 := Below.refl w.heap.size w
  go_enter Try.func38, Try.ntmps38
  go_wp2_with fail
  have hn0 := Below.allocs w (.cells #[.int .u8 (tk a), .int .i64 (tn a), .int .i64 0, .string ⟨#[]⟩] 23)
  have An := Boxed.new w (tk a) (tn a) 0 ⟨#[]⟩ 23
  have hw1 := below_tr hw0 hn0
  have A1 := An
  clear An hn0
  have hn1 := Below.allocs (w.alloc (.cells #[.int .u8 (tk a), .int .i64 (tn a), .int .i64 0, .string ⟨#[]⟩] 23)) (.cells #[.int .u8 (tk b), .int .i64 (tn b), .int .i64 0, .string ⟨#[]⟩] 23)
  have Bn := Boxed.new (w.alloc (.cells #[.int .u8 (tk a), .int .i64 (tn a), .int .i64 0, .string ⟨#[]⟩] 23)) (tk b) (tn b) 0 ⟨#[]⟩ 23
  rw [show (w.alloc (.cells #[.int .u8 (tk a), .int .i64 (tn a), .int .i64 0, .string ⟨#[]⟩] 23)).heap.size = w.heap.size + 1 by simp] at Bn
  have A2 := A1.below hn1
  have hw2 := below_tr hw1 hn1
  clear A1
  have B2 := Bn
  clear Bn hn1
  have hn2 := Below.allocs ((w.alloc (.cells #[.int .u8 (tk a), .int .i64 (tn a), .int .i64 0, .string ⟨#[]⟩] 23)).alloc (.cells #[.int .u8 (tk b), .int .i64 (tn b), .int .i64 0, .string ⟨#[]⟩] 23)) (.cells #[.int .u8 0, .int .i64 0, .int .i64 0, .string ⟨#[]⟩] 23)
  have Rn := Boxed.new ((w.alloc (.cells #[.int .u8 (tk a), .int .i64 (tn a), .int .i64 0, .string ⟨#[]⟩] 23)).alloc (.cells #[.int .u8 (tk b), .int .i64 (tn b), .int .i64 0, .string ⟨#[]⟩] 23)) 0 0 0 ⟨#[]⟩ 23
  have SRn := Soft.new ((w.alloc (.cells #[.int .u8 (tk a), .int .i64 (tn a), .int .i64 0, .string ⟨#[]⟩] 23)).alloc (.cells #[.int .u8 (tk b), .int .i64 (tn b), .int .i64 0, .string ⟨#[]⟩] 23)) 0 0 0 ⟨#[]⟩ 23
  rw [show ((w.alloc (.cells #[.int .u8 (tk a), .int .i64 (tn a), .int .i64 0, .string ⟨#[]⟩] 23)).alloc (.cells #[.int .u8 (tk b), .int .i64 (tn b), .int .i64 0, .string ⟨#[]⟩] 23)).heap.size = w.heap.size + 1 + 1 by simp] at Rn SRn
  have A3 := A2.below hn2
  have B3 := B2.below hn2
  have hw3 := below_tr hw2 hn2
  clear A2 B2
  have R3 := Rn
  clear Rn hn2
  have SR3 := SRn
  clear SRn
  refine (or_is (tk a) (tn a) 0 ⟨#[]⟩ (tk b) (tn b) 0 ⟨#[]⟩ ⟨tk x, tn x, 0⟩ HR.out _).mono ?_
  rintro e v1 ⟨rfl, hv1⟩
  have A4 := A3.below hv1
  have B4 := B3.below hv1
  have R4 := R3.below hv1
  have SR4 := SR3.below hv1
  have hw4 := below_tr hw3 hv1
  clear A3 B3 R3 SR3
  clear hv1
  have r' := R4
  obtain ⟨r0, r1, r2, r3, r4⟩ := r'
  have sr' := SR4
  obtain ⟨s0, s1, s2, s3, s4⟩ := sr'
  have hwp := below_put4 hw4 (by omega : w.heap.size ≤ w.heap.size + 1 + 1) (tk x) (tn x) 0 ⟨#[]⟩
  have hn := Below.allocs (put4 v1 (w.heap.size + 1 + 1) (tk x) (tn x) 0 ⟨#[]⟩) (.cells #[.int .u8 (tk x), .int .i64 (tn x), .int .i64 0, .string ⟨#[]⟩] 23)
  have hwz := below_tr hwp hn
  obtain ⟨q0, q1, q2, q3, q4⟩ := (boxed_put4 R4 (tk x) (tn x) 0 ⟨#[]⟩).below hn
  go_wp2_with fail
  exact bodyPost_ret (w := (put4 v1 (w.heap.size + 1 + 1) (tk x) (tn x) 0 ⟨#[]⟩).alloc (.cells #[.int .u8 (tk x), .int .i64 (tn x), .int .i64 0, .string ⟨#[]⟩] 23)) (v := .agg #[.int .u8 (tk x), .int .i64 (tn x), .int .i64 0, .string ⟨#[]⟩]) (by simp [results, Try.results38, go_sem, q0, q1, q2, q3]) rfl ⟨rfl, hwz⟩

theorem box_1 (W : World) (k n u : Int) (t : ByteArray) (o1 o2 : Obj) (ty : TypeId) : Boxed (((W.alloc (.cells #[.int .u8 k, .int .i64 n, .int .i64 u, .string t] ty)).alloc o1).alloc o2).drew W.heap.size k n u t :=
  (((Boxed.new W k n u t ty).below (Below.allocs _ o1)).below (Below.allocs _ o2)).below (below_drew _)
theorem box_2 (W : World) (k n u : Int) (t : ByteArray) (o1 o2 : Obj) (ty : TypeId) : Boxed (((W.alloc o1).alloc (.cells #[.int .u8 k, .int .i64 n, .int .i64 u, .string t] ty)).alloc o2).drew (W.heap.size + 1) k n u t := by
  have := ((Boxed.new (W.alloc o1) k n u t ty).below (Below.allocs _ o2)).below (below_drew _)
  rw [show (W.alloc o1).heap.size = W.heap.size + 1 by simp] at this
  exact this
theorem box_3 (W : World) (k n u : Int) (t : ByteArray) (o1 o2 : Obj) (ty : TypeId) : Boxed (((W.alloc o1).alloc o2).alloc (.cells #[.int .u8 k, .int .i64 n, .int .i64 u, .string t] ty)).drew (W.heap.size + 1 + 1) k n u t := by
  have := (Boxed.new ((W.alloc o1).alloc o2) k n u t ty).below (below_drew _)
  rw [show ((W.alloc o1).alloc o2).heap.size = W.heap.size + 1 + 1 by simp] at this
  exact this
theorem box_b (W : World) (o1 o2 o3 : Obj) : Below W.heap.size W (((W.alloc o1).alloc o2).alloc o3).drew :=
  below_tr (below_tr (below_tr (Below.allocs W o1) (Below.allocs _ o2)) (Below.allocs _ o3)) (below_drew _)

theorem row_keep {g i j l : Nat} {ka na kb nb kc nc : Int} {W W' : World} (h : W.cell? ⟨g, i * 4, none⟩ = some (.int .u8 ka) ∧ W.cell? ⟨g, i * 4 + 1, none⟩ = some (.int .i64 na) ∧ W.cell? ⟨g, i * 4 + 2, none⟩ = some (.int .i64 0) ∧ W.cell? ⟨g, i * 4 + 3, none⟩ = some (.string ⟨#[]⟩) ∧ W.cell? ⟨g, j * 4, none⟩ = some (.int .u8 kb) ∧ W.cell? ⟨g, j * 4 + 1, none⟩ = some (.int .i64 nb) ∧ W.cell? ⟨g, j * 4 + 2, none⟩ = some (.int .i64 0) ∧ W.cell? ⟨g, j * 4 + 3, none⟩ = some (.string ⟨#[]⟩) ∧ W.cell? ⟨g, l * 4, none⟩ = some (.int .u8 kc) ∧ W.cell? ⟨g, l * 4 + 1, none⟩ = some (.int .i64 nc) ∧ W.cell? ⟨g, l * 4 + 2, none⟩ = some (.int .i64 0) ∧ W.cell? ⟨g, l * 4 + 3, none⟩ = some (.string ⟨#[]⟩)) (hb : Below (g + 1) W W') : W'.cell? ⟨g, i * 4, none⟩ = some (.int .u8 ka) ∧ W'.cell? ⟨g, i * 4 + 1, none⟩ = some (.int .i64 na) ∧ W'.cell? ⟨g, i * 4 + 2, none⟩ = some (.int .i64 0) ∧ W'.cell? ⟨g, i * 4 + 3, none⟩ = some (.string ⟨#[]⟩) ∧ W'.cell? ⟨g, j * 4, none⟩ = some (.int .u8 kb) ∧ W'.cell? ⟨g, j * 4 + 1, none⟩ = some (.int .i64 nb) ∧ W'.cell? ⟨g, j * 4 + 2, none⟩ = some (.int .i64 0) ∧ W'.cell? ⟨g, j * 4 + 3, none⟩ = some (.string ⟨#[]⟩) ∧ W'.cell? ⟨g, l * 4, none⟩ = some (.int .u8 kc) ∧ W'.cell? ⟨g, l * 4 + 1, none⟩ = some (.int .i64 nc) ∧ W'.cell? ⟨g, l * 4 + 2, none⟩ = some (.int .i64 0) ∧ W'.cell? ⟨g, l * 4 + 3, none⟩ = some (.string ⟨#[]⟩) := by
  obtain ⟨h0, h1, h2, h3, h4, h5, h6, h7, h8, h9, h10, h11⟩ := h
  refine ⟨?_, ?_, ?_, ?_, ?_, ?_, ?_, ?_, ?_, ?_, ?_, ?_⟩ <;> (rw [hb.cell (Nat.lt_succ_self g)]; assumption)

def CutP (w : World) (ka na kb nb kc nc : Int) (s8 s9 s10 : Value) (wx : World) : Prop :=
  ∃ ga gb gc, s8 = .pointer (some ⟨ga, 0, none⟩) ∧ s9 = .pointer (some ⟨gb, 0, none⟩) ∧ s10 = .pointer (some ⟨gc, 0, none⟩) ∧ Boxed wx ga ka na 0 ⟨#[]⟩ ∧ Boxed wx gb kb nb 0 ⟨#[]⟩ ∧ Boxed wx gc kc nc 0 ⟨#[]⟩ ∧ Below w.heap.size w wx

set_option maxRecDepth 100000 in
set_option maxHeartbeats 4000000 in
theorem laws_walk (x y z : Int) (i j l : Nat) (a b c : Option Bool) (hi : i < 3) (hj : j < 3) (hl : l < 3) (tx : x.tmod 3 = (i : Int)) (ty : y.tmod 3 = (j : Int)) (tz : z.tmod 3 = (l : Int))
    (hf : ∀ W g, BoxAt W g 0 1 2 3 2 0 0 ⟨#[]⟩ → BoxAt W g 4 5 6 7 2 1 0 ⟨#[]⟩ → BoxAt W g 8 9 10 11 0 0 0 ⟨#[]⟩ → W.cell? ⟨g, i * 4, none⟩ = some (.int .u8 (tk a)) ∧ W.cell? ⟨g, i * 4 + 1, none⟩ = some (.int .i64 (tn a)) ∧ W.cell? ⟨g, i * 4 + 2, none⟩ = some (.int .i64 0) ∧ W.cell? ⟨g, i * 4 + 3, none⟩ = some (.string ⟨#[]⟩) ∧ W.cell? ⟨g, j * 4, none⟩ = some (.int .u8 (tk b)) ∧ W.cell? ⟨g, j * 4 + 1, none⟩ = some (.int .i64 (tn b)) ∧ W.cell? ⟨g, j * 4 + 2, none⟩ = some (.int .i64 0) ∧ W.cell? ⟨g, j * 4 + 3, none⟩ = some (.string ⟨#[]⟩) ∧ W.cell? ⟨g, l * 4, none⟩ = some (.int .u8 (tk c)) ∧ W.cell? ⟨g, l * 4 + 1, none⟩ = some (.int .i64 (tn c)) ∧ W.cell? ⟨g, l * 4 + 2, none⟩ = some (.int .i64 0) ∧ W.cell? ⟨g, l * 4 + 3, none⟩ = some (.string ⟨#[]⟩)) (w : World) :
    Calls Try.prog 5 #[.int .u8 x, .int .u8 y, .int .u8 z] w fun e w' => e = .returned (.bool true) ∧ Below w.heap.size w w' := by
  have hw0 := Below.refl w.heap.size w
  have e1 : ofN false = 0 := rfl
  have e2 : ofN true = 1 := rfl
  have HF := Lib.hid hf
  clear hf
  have ii : (i : Int) < 3 := by omega
  have ij : (j : Int) < 3 := by omega
  have il : (l : Int) < 3 := by omega
  go_enter Try.func5, Try.ntmps5
  go_wp2_with fail
  refine (of_is false _).mono ?_
  rintro e v1 ⟨rfl, hv1⟩
  go_wp2_with fail
  refine (of_is true _).mono ?_
  rintro e v2 ⟨rfl, hv2⟩
  have hw2 := below_tr (below_tr hw0 hv1) hv2
  have hs : Below v2.heap.size v2 (v2.alloc (.cells #[.int .u8 2, .int .i64 0, .int .i64 0, .string ⟨#[]⟩, .int .u8 2, .int .i64 1, .int .i64 0, .string ⟨#[]⟩, .int .u8 0, .int .i64 0, .int .i64 0, .string ⟨#[]⟩] 23)) := Below.allocs _ _
  have h3 := three_new v2 2 0 0 ⟨#[]⟩ 2 1 0 ⟨#[]⟩ 0 0 0 ⟨#[]⟩ 23
  go_upto_region 2 with fail
  generalize (v2.alloc (.cells #[.int .u8 2, .int .i64 0, .int .i64 0, .string ⟨#[]⟩, .int .u8 2, .int .i64 1, .int .i64 0, .string ⟨#[]⟩, .int .u8 0, .int .i64 0, .int .i64 0, .string ⟨#[]⟩] 23)) = W at *
  obtain ⟨g, hg⟩ : ∃ g, v2.heap.size = g := ⟨_, rfl⟩
  rw [hg] at h3 ⊢
  have a4 := h3.1.2.2.2.2
  have hrow := HF.out W g h3.1 h3.2.1 h3.2.2
  have hw3 := below_tr hw2 hs
  clear hs hg hv1 hv2 h3
  obtain ⟨a0, a1, a2, a3, a40, a5, a6, a7, a8, a9, a10, a11⟩ := hrow
  go_cut [8, 9, 10] (fun s8 s9 s10 wx => CutP w (tk a) (tn a) (tk b) (tn b) (tk c) (tn c) s8 s9 s10 wx)
  case first =>
    go_region_held3 (fun W => W.cell? ⟨g, i * 4, none⟩ = some (.int .u8 (tk a)) ∧ W.cell? ⟨g, i * 4 + 1, none⟩ = some (.int .i64 (tn a)) ∧ W.cell? ⟨g, i * 4 + 2, none⟩ = some (.int .i64 0) ∧ W.cell? ⟨g, i * 4 + 3, none⟩ = some (.string ⟨#[]⟩) ∧ W.cell? ⟨g, j * 4, none⟩ = some (.int .u8 (tk b)) ∧ W.cell? ⟨g, j * 4 + 1, none⟩ = some (.int .i64 (tn b)) ∧ W.cell? ⟨g, j * 4 + 2, none⟩ = some (.int .i64 0) ∧ W.cell? ⟨g, j * 4 + 3, none⟩ = some (.string ⟨#[]⟩) ∧ W.cell? ⟨g, l * 4, none⟩ = some (.int .u8 (tk c)) ∧ W.cell? ⟨g, l * 4 + 1, none⟩ = some (.int .i64 (tn c)) ∧ W.cell? ⟨g, l * 4 + 2, none⟩ = some (.int .i64 0) ∧ W.cell? ⟨g, l * 4 + 3, none⟩ = some (.string ⟨#[]⟩)) ((refine row_keep (W := W) ⟨a0, a1, a2, a3, a40, a5, a6, a7, a8, a9, a10, a11⟩ ?_; repeat (first | exact Below.refl _ _ | refine Below.drew ?_ | refine Below.alloc ?_ (by first | omega | (simp; omega)) _ | refine Below.setCell ?_ (by first | omega | (simp; omega)) _))) (fail)
    all_goals (go_wp2_with fail; go_meet; refine ⟨_, _, _, rfl, rfl, rfl, ?_, ?_, ?_, ?_⟩)
    all_goals first | exact box_1 _ _ _ _ _ _ _ _ | exact box_2 _ _ _ _ _ _ _ _ | exact box_3 _ _ _ _ _ _ _ _ | exact below_tr hw3 (box_b _ _ _ _)
  case rest =>
    obtain ⟨ga, gb, gc, rfl, rfl, rfl, A4, B4, C4, hw4⟩ := hcut
    clear a0 a1 a2 a3 a40 a5 a6 a7 a8 a9 a10 a11 a4 hw2 hw3
    have HNN := Lib.hid (show notT (notT a) = a by rcases a with _ | (_ | _) <;> rfl)
    have HAB := Lib.hid (show andT b a = andT a b by rcases a with _ | (_ | _) <;> rcases b with _ | (_ | _) <;> rfl)
    have HOB := Lib.hid (show orT b a = orT a b by rcases a with _ | (_ | _) <;> rcases b with _ | (_ | _) <;> rfl)
    have HA3 := Lib.hid (show andT a (andT b c) = andT (andT a b) c by rcases a with _ | (_ | _) <;> rcases b with _ | (_ | _) <;> rcases c with _ | (_ | _) <;> rfl)
    have HO3 := Lib.hid (show orT a (orT b c) = orT (orT a b) c by rcases a with _ | (_ | _) <;> rcases b with _ | (_ | _) <;> rcases c with _ | (_ | _) <;> rfl)
    have HNA := Lib.hid (show orT (notT a) (notT b) = notT (andT a b) by rcases a with _ | (_ | _) <;> rcases b with _ | (_ | _) <;> rfl)
    have HNO := Lib.hid (show andT (notT a) (notT b) = notT (orT a b) by rcases a with _ | (_ | _) <;> rcases b with _ | (_ | _) <;> rfl)
    have HDI := Lib.hid (show orT (andT a b) (andT a c) = andT a (orT b c) by rcases a with _ | (_ | _) <;> rcases b with _ | (_ | _) <;> rcases c with _ | (_ | _) <;> rfl)
    have HAO := Lib.hid (show andT a (orT a b) = a by rcases a with _ | (_ | _) <;> rcases b with _ | (_ | _) <;> rfl)
    go_wp2_with fail
    simp only [List.append_eq, List.cons_append, List.nil_append]
    have hd := below_drew wc
    refine wp_region_plan (fun w w' => Below w.heap.size w w') [.it (.bool true), .it (.bool true), .it (.func (.func 36) #[] #[]), .it (.func (.func 36) #[] #[]), .it (.agg #[.int .u8 (tk a), .int .i64 (tn a), .int .i64 0, .string ⟨#[]⟩]), .it (.agg #[.int .u8 (tk (notT a)), .int .i64 (tn (notT a)), .int .i64 0, .string ⟨#[]⟩]), .it (.agg #[.int .u8 (tk a), .int .i64 (tn a), .int .i64 0, .string ⟨#[]⟩]), .it (.agg #[.int .u8 (tk a), .int .i64 (tn a), .int .i64 0, .string ⟨#[]⟩]), .it (.bool true), .it (.bool true), .it (.bool true), .it (.func (.func 37) #[] #[]), .it (.agg #[.int .u8 (tk a), .int .i64 (tn a), .int .i64 0, .string ⟨#[]⟩]), .it (.agg #[.int .u8 (tk b), .int .i64 (tn b), .int .i64 0, .string ⟨#[]⟩]), .it (.agg #[.int .u8 (tk (andT a b)), .int .i64 (tn (andT a b)), .int .i64 0, .string ⟨#[]⟩]), .it (.func (.func 37) #[] #[]), .it (.agg #[.int .u8 (tk b), .int .i64 (tn b), .int .i64 0, .string ⟨#[]⟩]), .it (.agg #[.int .u8 (tk a), .int .i64 (tn a), .int .i64 0, .string ⟨#[]⟩]), .it (.agg #[.int .u8 (tk (andT a b)), .int .i64 (tn (andT a b)), .int .i64 0, .string ⟨#[]⟩]), .it (.bool true), .it (.bool true), .it (.bool true), .it (.func (.func 38) #[] #[]), .it (.agg #[.int .u8 (tk a), .int .i64 (tn a), .int .i64 0, .string ⟨#[]⟩]), .it (.agg #[.int .u8 (tk b), .int .i64 (tn b), .int .i64 0, .string ⟨#[]⟩]), .it (.agg #[.int .u8 (tk (orT a b)), .int .i64 (tn (orT a b)), .int .i64 0, .string ⟨#[]⟩]), .it (.func (.func 38) #[] #[]), .it (.agg #[.int .u8 (tk b), .int .i64 (tn b), .int .i64 0, .string ⟨#[]⟩]), .it (.agg #[.int .u8 (tk a), .int .i64 (tn a), .int .i64 0, .string ⟨#[]⟩]), .it (.agg #[.int .u8 (tk (orT a b)), .int .i64 (tn (orT a b)), .int .i64 0, .string ⟨#[]⟩]), .it (.bool true), .it (.bool true), .it (.bool true), .it (.func (.func 37) #[] #[]), .it (.func (.func 37) #[] #[]), .it (.agg #[.int .u8 (tk a), .int .i64 (tn a), .int .i64 0, .string ⟨#[]⟩]), .it (.agg #[.int .u8 (tk b), .int .i64 (tn b), .int .i64 0, .string ⟨#[]⟩]), .it (.agg #[.int .u8 (tk (andT a b)), .int .i64 (tn (andT a b)), .int .i64 0, .string ⟨#[]⟩]), .it (.agg #[.int .u8 (tk c), .int .i64 (tn c), .int .i64 0, .string ⟨#[]⟩]), .it (.agg #[.int .u8 (tk (andT (andT a b) c)), .int .i64 (tn (andT (andT a b) c)), .int .i64 0, .string ⟨#[]⟩]), .it (.func (.func 37) #[] #[]), .it (.agg #[.int .u8 (tk a), .int .i64 (tn a), .int .i64 0, .string ⟨#[]⟩]), .it (.func (.func 37) #[] #[]), .it (.agg #[.int .u8 (tk b), .int .i64 (tn b), .int .i64 0, .string ⟨#[]⟩]), .it (.agg #[.int .u8 (tk c), .int .i64 (tn c), .int .i64 0, .string ⟨#[]⟩]), .it (.agg #[.int .u8 (tk (andT b c)), .int .i64 (tn (andT b c)), .int .i64 0, .string ⟨#[]⟩]), .it (.agg #[.int .u8 (tk (andT (andT a b) c)), .int .i64 (tn (andT (andT a b) c)), .int .i64 0, .string ⟨#[]⟩]), .it (.bool true), .it (.bool true), .it (.bool true), .it (.func (.func 38) #[] #[]), .it (.func (.func 38) #[] #[]), .it (.agg #[.int .u8 (tk a), .int .i64 (tn a), .int .i64 0, .string ⟨#[]⟩]), .it (.agg #[.int .u8 (tk b), .int .i64 (tn b), .int .i64 0, .string ⟨#[]⟩]), .it (.agg #[.int .u8 (tk (orT a b)), .int .i64 (tn (orT a b)), .int .i64 0, .string ⟨#[]⟩]), .it (.agg #[.int .u8 (tk c), .int .i64 (tn c), .int .i64 0, .string ⟨#[]⟩]), .it (.agg #[.int .u8 (tk (orT (orT a b) c)), .int .i64 (tn (orT (orT a b) c)), .int .i64 0, .string ⟨#[]⟩]), .it (.func (.func 38) #[] #[]), .it (.agg #[.int .u8 (tk a), .int .i64 (tn a), .int .i64 0, .string ⟨#[]⟩]), .it (.func (.func 38) #[] #[]), .it (.agg #[.int .u8 (tk b), .int .i64 (tn b), .int .i64 0, .string ⟨#[]⟩]), .it (.agg #[.int .u8 (tk c), .int .i64 (tn c), .int .i64 0, .string ⟨#[]⟩]), .it (.agg #[.int .u8 (tk (orT b c)), .int .i64 (tn (orT b c)), .int .i64 0, .string ⟨#[]⟩]), .it (.agg #[.int .u8 (tk (orT (orT a b) c)), .int .i64 (tn (orT (orT a b) c)), .int .i64 0, .string ⟨#[]⟩]), .it (.bool true), .it (.bool true), .it (.bool true), .it (.func (.func 36) #[] #[]), .it (.func (.func 37) #[] #[]), .it (.agg #[.int .u8 (tk a), .int .i64 (tn a), .int .i64 0, .string ⟨#[]⟩]), .it (.agg #[.int .u8 (tk b), .int .i64 (tn b), .int .i64 0, .string ⟨#[]⟩]), .it (.agg #[.int .u8 (tk (andT a b)), .int .i64 (tn (andT a b)), .int .i64 0, .string ⟨#[]⟩]), .it (.agg #[.int .u8 (tk (notT (andT a b))), .int .i64 (tn (notT (andT a b))), .int .i64 0, .string ⟨#[]⟩]), .it (.func (.func 38) #[] #[]), .it (.func (.func 36) #[] #[]), .it (.agg #[.int .u8 (tk a), .int .i64 (tn a), .int .i64 0, .string ⟨#[]⟩]), .it (.agg #[.int .u8 (tk (notT a)), .int .i64 (tn (notT a)), .int .i64 0, .string ⟨#[]⟩]), .it (.func (.func 36) #[] #[]), .it (.agg #[.int .u8 (tk b), .int .i64 (tn b), .int .i64 0, .string ⟨#[]⟩]), .it (.agg #[.int .u8 (tk (notT b)), .int .i64 (tn (notT b)), .int .i64 0, .string ⟨#[]⟩]), .it (.agg #[.int .u8 (tk (notT (andT a b))), .int .i64 (tn (notT (andT a b))), .int .i64 0, .string ⟨#[]⟩]), .it (.bool true), .it (.bool true), .it (.bool true), .it (.func (.func 36) #[] #[]), .it (.func (.func 38) #[] #[]), .it (.agg #[.int .u8 (tk a), .int .i64 (tn a), .int .i64 0, .string ⟨#[]⟩]), .it (.agg #[.int .u8 (tk b), .int .i64 (tn b), .int .i64 0, .string ⟨#[]⟩]), .it (.agg #[.int .u8 (tk (orT a b)), .int .i64 (tn (orT a b)), .int .i64 0, .string ⟨#[]⟩]), .it (.agg #[.int .u8 (tk (notT (orT a b))), .int .i64 (tn (notT (orT a b))), .int .i64 0, .string ⟨#[]⟩]), .it (.func (.func 37) #[] #[]), .it (.func (.func 36) #[] #[]), .it (.agg #[.int .u8 (tk a), .int .i64 (tn a), .int .i64 0, .string ⟨#[]⟩]), .it (.agg #[.int .u8 (tk (notT a)), .int .i64 (tn (notT a)), .int .i64 0, .string ⟨#[]⟩]), .it (.func (.func 36) #[] #[]), .it (.agg #[.int .u8 (tk b), .int .i64 (tn b), .int .i64 0, .string ⟨#[]⟩]), .it (.agg #[.int .u8 (tk (notT b)), .int .i64 (tn (notT b)), .int .i64 0, .string ⟨#[]⟩]), .it (.agg #[.int .u8 (tk (notT (orT a b))), .int .i64 (tn (notT (orT a b))), .int .i64 0, .string ⟨#[]⟩]), .it (.bool true), .it (.bool true), .it (.bool true), .it (.func (.func 37) #[] #[]), .it (.agg #[.int .u8 (tk a), .int .i64 (tn a), .int .i64 0, .string ⟨#[]⟩]), .it (.func (.func 38) #[] #[]), .it (.agg #[.int .u8 (tk b), .int .i64 (tn b), .int .i64 0, .string ⟨#[]⟩]), .it (.agg #[.int .u8 (tk c), .int .i64 (tn c), .int .i64 0, .string ⟨#[]⟩]), .it (.agg #[.int .u8 (tk (orT b c)), .int .i64 (tn (orT b c)), .int .i64 0, .string ⟨#[]⟩]), .it (.agg #[.int .u8 (tk (andT a (orT b c))), .int .i64 (tn (andT a (orT b c))), .int .i64 0, .string ⟨#[]⟩]), .it (.func (.func 38) #[] #[]), .it (.func (.func 37) #[] #[]), .it (.agg #[.int .u8 (tk a), .int .i64 (tn a), .int .i64 0, .string ⟨#[]⟩]), .it (.agg #[.int .u8 (tk b), .int .i64 (tn b), .int .i64 0, .string ⟨#[]⟩]), .it (.agg #[.int .u8 (tk (andT a b)), .int .i64 (tn (andT a b)), .int .i64 0, .string ⟨#[]⟩]), .it (.func (.func 37) #[] #[]), .it (.agg #[.int .u8 (tk a), .int .i64 (tn a), .int .i64 0, .string ⟨#[]⟩]), .it (.agg #[.int .u8 (tk c), .int .i64 (tn c), .int .i64 0, .string ⟨#[]⟩]), .it (.agg #[.int .u8 (tk (andT a c)), .int .i64 (tn (andT a c)), .int .i64 0, .string ⟨#[]⟩]), .it (.agg #[.int .u8 (tk (andT a (orT b c))), .int .i64 (tn (andT a (orT b c))), .int .i64 0, .string ⟨#[]⟩]), .it (.bool true), .it (.bool true), .it (.bool true), .it (.func (.func 37) #[] #[]), .it (.agg #[.int .u8 (tk a), .int .i64 (tn a), .int .i64 0, .string ⟨#[]⟩]), .it (.func (.func 38) #[] #[]), .it (.agg #[.int .u8 (tk a), .int .i64 (tn a), .int .i64 0, .string ⟨#[]⟩]), .it (.agg #[.int .u8 (tk b), .int .i64 (tn b), .int .i64 0, .string ⟨#[]⟩]), .it (.agg #[.int .u8 (tk (orT a b)), .int .i64 (tn (orT a b)), .int .i64 0, .string ⟨#[]⟩]), .it (.agg #[.int .u8 (tk a), .int .i64 (tn a), .int .i64 0, .string ⟨#[]⟩]), .it (.agg #[.int .u8 (tk a), .int .i64 (tn a), .int .i64 0, .string ⟨#[]⟩]), .it (.bool true), .it (.bool true), .it (.bool true)] (by kernel_rfl) (by kernel_rfl) (fun w => Below.refl _ _) (fun _ _ _ => below_tr) ?_
    refine seqP_call 9 #[] (.bool true) (by first | rfl | simp) (fun w' hw' hctx => ?_) (fun w' hw' hctx => awake_is w') ?_
    · go_simp
    simp only [Act.put, List.setIfInBounds_toArray, List.set_cons_zero, List.set_cons_succ]
    refine seqP_value (fun w => Below.refl _ _) _ (by first | rfl | simp) (fun w' hw' hctx => ?_) ?_
    · go_simp
      try first | with_reducible rfl | simp
    simp only [Act.put, List.setIfInBounds_toArray, List.set_cons_zero, List.set_cons_succ]
    refine seqP_value (fun w => Below.refl _ _) _ (by first | rfl | simp) (fun w' hw' hctx => ?_) ?_
    · go_simp
      try first | with_reducible rfl | simp
    simp only [Act.put, List.setIfInBounds_toArray, List.set_cons_zero, List.set_cons_succ]
    refine seqP_value (fun w => Below.refl _ _) _ (by first | rfl | simp) (fun w' hw' hctx => ?_) ?_
    · go_simp
      try first | with_reducible rfl | simp
    simp only [Act.put, List.setIfInBounds_toArray, List.set_cons_zero, List.set_cons_succ]
    refine seqP_value (fun w => Below.refl _ _) _ (by first | rfl | simp) (fun w' hw' hctx => ?_) ?_
    · obtain ⟨c0, c1, c2, c3, c4⟩ := A4.below (below_tr hd hw')
      go_simp
      try first | with_reducible rfl | simp
    simp only [Act.put, List.setIfInBounds_toArray, List.set_cons_zero, List.set_cons_succ]
    refine seqP_call 36 #[.agg #[.int .u8 (tk a), .int .i64 (tn a), .int .i64 0, .string ⟨#[]⟩]] (.agg #[.int .u8 (tk (notT a)), .int .i64 (tn (notT a)), .int .i64 0, .string ⟨#[]⟩]) (by first | rfl | simp) (fun w' hw' hctx => ?_) (fun w' hw' hctx => not_t a (notT a) rfl w') ?_
    · go_simp
    simp only [Act.put, List.setIfInBounds_toArray, List.set_cons_zero, List.set_cons_succ]
    refine seqP_call 36 #[.agg #[.int .u8 (tk (notT a)), .int .i64 (tn (notT a)), .int .i64 0, .string ⟨#[]⟩]] (.agg #[.int .u8 (tk a), .int .i64 (tn a), .int .i64 0, .string ⟨#[]⟩]) (by first | rfl | simp) (fun w' hw' hctx => ?_) (fun w' hw' hctx => not_t (notT a) a HNN.out w') ?_
    · go_simp
    simp only [Act.put, List.setIfInBounds_toArray, List.set_cons_zero, List.set_cons_succ]
    refine seqP_value (fun w => Below.refl _ _) _ (by first | rfl | simp) (fun w' hw' hctx => ?_) ?_
    · obtain ⟨c0, c1, c2, c3, c4⟩ := A4.below (below_tr hd hw')
      go_simp
      try first | with_reducible rfl | simp
    simp only [Act.put, List.setIfInBounds_toArray, List.set_cons_zero, List.set_cons_succ]
    refine seqP_value (fun w => Below.refl _ _) _ (by first | rfl | simp) (fun w' hw' hctx => ?_) ?_
    · go_simp
      try first | with_reducible rfl | simp
    simp only [Act.put, List.setIfInBounds_toArray, List.set_cons_zero, List.set_cons_succ]
    refine seqP_value (fun w => Below.refl _ _) _ (by first | rfl | simp) (fun w' hw' hctx => ?_) ?_
    · go_simp
      try first | with_reducible rfl | simp
    simp only [Act.put, List.setIfInBounds_toArray, List.set_cons_zero, List.set_cons_succ]
    refine seqP_value (fun w => Below.refl _ _) _ (by first | rfl | simp) (fun w' hw' hctx => ?_) ?_
    · go_simp
      try first | with_reducible rfl | simp
    simp only [Act.put, List.setIfInBounds_toArray, List.set_cons_zero, List.set_cons_succ]
    refine seqP_value (fun w => Below.refl _ _) _ (by first | rfl | simp) (fun w' hw' hctx => ?_) ?_
    · go_simp
      try first | with_reducible rfl | simp
    simp only [Act.put, List.setIfInBounds_toArray, List.set_cons_zero, List.set_cons_succ]
    refine seqP_value (fun w => Below.refl _ _) _ (by first | rfl | simp) (fun w' hw' hctx => ?_) ?_
    · obtain ⟨c0, c1, c2, c3, c4⟩ := A4.below (below_tr hd hw')
      go_simp
      try first | with_reducible rfl | simp
    simp only [Act.put, List.setIfInBounds_toArray, List.set_cons_zero, List.set_cons_succ]
    refine seqP_value (fun w => Below.refl _ _) _ (by first | rfl | simp) (fun w' hw' hctx => ?_) ?_
    · obtain ⟨c0, c1, c2, c3, c4⟩ := B4.below (below_tr hd hw')
      go_simp
      try first | with_reducible rfl | simp
    simp only [Act.put, List.setIfInBounds_toArray, List.set_cons_zero, List.set_cons_succ]
    refine seqP_call 37 #[.agg #[.int .u8 (tk a), .int .i64 (tn a), .int .i64 0, .string ⟨#[]⟩], .agg #[.int .u8 (tk b), .int .i64 (tn b), .int .i64 0, .string ⟨#[]⟩]] (.agg #[.int .u8 (tk (andT a b)), .int .i64 (tn (andT a b)), .int .i64 0, .string ⟨#[]⟩]) (by first | rfl | simp) (fun w' hw' hctx => ?_) (fun w' hw' hctx => and_t a b (andT a b) rfl w') ?_
    · go_simp
    simp only [Act.put, List.setIfInBounds_toArray, List.set_cons_zero, List.set_cons_succ]
    refine seqP_value (fun w => Below.refl _ _) _ (by first | rfl | simp) (fun w' hw' hctx => ?_) ?_
    · go_simp
      try first | with_reducible rfl | simp
    simp only [Act.put, List.setIfInBounds_toArray, List.set_cons_zero, List.set_cons_succ]
    refine seqP_value (fun w => Below.refl _ _) _ (by first | rfl | simp) (fun w' hw' hctx => ?_) ?_
    · obtain ⟨c0, c1, c2, c3, c4⟩ := B4.below (below_tr hd hw')
      go_simp
      try first | with_reducible rfl | simp
    simp only [Act.put, List.setIfInBounds_toArray, List.set_cons_zero, List.set_cons_succ]
    refine seqP_value (fun w => Below.refl _ _) _ (by first | rfl | simp) (fun w' hw' hctx => ?_) ?_
    · obtain ⟨c0, c1, c2, c3, c4⟩ := A4.below (below_tr hd hw')
      go_simp
      try first | with_reducible rfl | simp
    simp only [Act.put, List.setIfInBounds_toArray, List.set_cons_zero, List.set_cons_succ]
    refine seqP_call 37 #[.agg #[.int .u8 (tk b), .int .i64 (tn b), .int .i64 0, .string ⟨#[]⟩], .agg #[.int .u8 (tk a), .int .i64 (tn a), .int .i64 0, .string ⟨#[]⟩]] (.agg #[.int .u8 (tk (andT a b)), .int .i64 (tn (andT a b)), .int .i64 0, .string ⟨#[]⟩]) (by first | rfl | simp) (fun w' hw' hctx => ?_) (fun w' hw' hctx => and_t b a (andT a b) HAB.out w') ?_
    · go_simp
    simp only [Act.put, List.setIfInBounds_toArray, List.set_cons_zero, List.set_cons_succ]
    refine seqP_value (fun w => Below.refl _ _) _ (by first | rfl | simp) (fun w' hw' hctx => ?_) ?_
    · go_simp
      try first | with_reducible rfl | simp
    simp only [Act.put, List.setIfInBounds_toArray, List.set_cons_zero, List.set_cons_succ]
    refine seqP_value (fun w => Below.refl _ _) _ (by first | rfl | simp) (fun w' hw' hctx => ?_) ?_
    · go_simp
      try first | with_reducible rfl | simp
    simp only [Act.put, List.setIfInBounds_toArray, List.set_cons_zero, List.set_cons_succ]
    refine seqP_value (fun w => Below.refl _ _) _ (by first | rfl | simp) (fun w' hw' hctx => ?_) ?_
    · go_simp
      try first | with_reducible rfl | simp
    simp only [Act.put, List.setIfInBounds_toArray, List.set_cons_zero, List.set_cons_succ]
    refine seqP_value (fun w => Below.refl _ _) _ (by first | rfl | simp) (fun w' hw' hctx => ?_) ?_
    · go_simp
      try first | with_reducible rfl | simp
    simp only [Act.put, List.setIfInBounds_toArray, List.set_cons_zero, List.set_cons_succ]
    refine seqP_value (fun w => Below.refl _ _) _ (by first | rfl | simp) (fun w' hw' hctx => ?_) ?_
    · obtain ⟨c0, c1, c2, c3, c4⟩ := A4.below (below_tr hd hw')
      go_simp
      try first | with_reducible rfl | simp
    simp only [Act.put, List.setIfInBounds_toArray, List.set_cons_zero, List.set_cons_succ]
    refine seqP_value (fun w => Below.refl _ _) _ (by first | rfl | simp) (fun w' hw' hctx => ?_) ?_
    · obtain ⟨c0, c1, c2, c3, c4⟩ := B4.below (below_tr hd hw')
      go_simp
      try first | with_reducible rfl | simp
    simp only [Act.put, List.setIfInBounds_toArray, List.set_cons_zero, List.set_cons_succ]
    refine seqP_call 38 #[.agg #[.int .u8 (tk a), .int .i64 (tn a), .int .i64 0, .string ⟨#[]⟩], .agg #[.int .u8 (tk b), .int .i64 (tn b), .int .i64 0, .string ⟨#[]⟩]] (.agg #[.int .u8 (tk (orT a b)), .int .i64 (tn (orT a b)), .int .i64 0, .string ⟨#[]⟩]) (by first | rfl | simp) (fun w' hw' hctx => ?_) (fun w' hw' hctx => or_t a b (orT a b) rfl w') ?_
    · go_simp
    simp only [Act.put, List.setIfInBounds_toArray, List.set_cons_zero, List.set_cons_succ]
    refine seqP_value (fun w => Below.refl _ _) _ (by first | rfl | simp) (fun w' hw' hctx => ?_) ?_
    · go_simp
      try first | with_reducible rfl | simp
    simp only [Act.put, List.setIfInBounds_toArray, List.set_cons_zero, List.set_cons_succ]
    refine seqP_value (fun w => Below.refl _ _) _ (by first | rfl | simp) (fun w' hw' hctx => ?_) ?_
    · obtain ⟨c0, c1, c2, c3, c4⟩ := B4.below (below_tr hd hw')
      go_simp
      try first | with_reducible rfl | simp
    simp only [Act.put, List.setIfInBounds_toArray, List.set_cons_zero, List.set_cons_succ]
    refine seqP_value (fun w => Below.refl _ _) _ (by first | rfl | simp) (fun w' hw' hctx => ?_) ?_
    · obtain ⟨c0, c1, c2, c3, c4⟩ := A4.below (below_tr hd hw')
      go_simp
      try first | with_reducible rfl | simp
    simp only [Act.put, List.setIfInBounds_toArray, List.set_cons_zero, List.set_cons_succ]
    refine seqP_call 38 #[.agg #[.int .u8 (tk b), .int .i64 (tn b), .int .i64 0, .string ⟨#[]⟩], .agg #[.int .u8 (tk a), .int .i64 (tn a), .int .i64 0, .string ⟨#[]⟩]] (.agg #[.int .u8 (tk (orT a b)), .int .i64 (tn (orT a b)), .int .i64 0, .string ⟨#[]⟩]) (by first | rfl | simp) (fun w' hw' hctx => ?_) (fun w' hw' hctx => or_t b a (orT a b) HOB.out w') ?_
    · go_simp
    simp only [Act.put, List.setIfInBounds_toArray, List.set_cons_zero, List.set_cons_succ]
    refine seqP_value (fun w => Below.refl _ _) _ (by first | rfl | simp) (fun w' hw' hctx => ?_) ?_
    · go_simp
      try first | with_reducible rfl | simp
    simp only [Act.put, List.setIfInBounds_toArray, List.set_cons_zero, List.set_cons_succ]
    refine seqP_value (fun w => Below.refl _ _) _ (by first | rfl | simp) (fun w' hw' hctx => ?_) ?_
    · go_simp
      try first | with_reducible rfl | simp
    simp only [Act.put, List.setIfInBounds_toArray, List.set_cons_zero, List.set_cons_succ]
    refine seqP_value (fun w => Below.refl _ _) _ (by first | rfl | simp) (fun w' hw' hctx => ?_) ?_
    · go_simp
      try first | with_reducible rfl | simp
    simp only [Act.put, List.setIfInBounds_toArray, List.set_cons_zero, List.set_cons_succ]
    refine seqP_value (fun w => Below.refl _ _) _ (by first | rfl | simp) (fun w' hw' hctx => ?_) ?_
    · go_simp
      try first | with_reducible rfl | simp
    simp only [Act.put, List.setIfInBounds_toArray, List.set_cons_zero, List.set_cons_succ]
    refine seqP_value (fun w => Below.refl _ _) _ (by first | rfl | simp) (fun w' hw' hctx => ?_) ?_
    · go_simp
      try first | with_reducible rfl | simp
    simp only [Act.put, List.setIfInBounds_toArray, List.set_cons_zero, List.set_cons_succ]
    refine seqP_value (fun w => Below.refl _ _) _ (by first | rfl | simp) (fun w' hw' hctx => ?_) ?_
    · obtain ⟨c0, c1, c2, c3, c4⟩ := A4.below (below_tr hd hw')
      go_simp
      try first | with_reducible rfl | simp
    simp only [Act.put, List.setIfInBounds_toArray, List.set_cons_zero, List.set_cons_succ]
    refine seqP_value (fun w => Below.refl _ _) _ (by first | rfl | simp) (fun w' hw' hctx => ?_) ?_
    · obtain ⟨c0, c1, c2, c3, c4⟩ := B4.below (below_tr hd hw')
      go_simp
      try first | with_reducible rfl | simp
    simp only [Act.put, List.setIfInBounds_toArray, List.set_cons_zero, List.set_cons_succ]
    refine seqP_call 37 #[.agg #[.int .u8 (tk a), .int .i64 (tn a), .int .i64 0, .string ⟨#[]⟩], .agg #[.int .u8 (tk b), .int .i64 (tn b), .int .i64 0, .string ⟨#[]⟩]] (.agg #[.int .u8 (tk (andT a b)), .int .i64 (tn (andT a b)), .int .i64 0, .string ⟨#[]⟩]) (by first | rfl | simp) (fun w' hw' hctx => ?_) (fun w' hw' hctx => and_t a b (andT a b) rfl w') ?_
    · go_simp
    simp only [Act.put, List.setIfInBounds_toArray, List.set_cons_zero, List.set_cons_succ]
    refine seqP_value (fun w => Below.refl _ _) _ (by first | rfl | simp) (fun w' hw' hctx => ?_) ?_
    · obtain ⟨c0, c1, c2, c3, c4⟩ := C4.below (below_tr hd hw')
      go_simp
      try first | with_reducible rfl | simp
    simp only [Act.put, List.setIfInBounds_toArray, List.set_cons_zero, List.set_cons_succ]
    refine seqP_call 37 #[.agg #[.int .u8 (tk (andT a b)), .int .i64 (tn (andT a b)), .int .i64 0, .string ⟨#[]⟩], .agg #[.int .u8 (tk c), .int .i64 (tn c), .int .i64 0, .string ⟨#[]⟩]] (.agg #[.int .u8 (tk (andT (andT a b) c)), .int .i64 (tn (andT (andT a b) c)), .int .i64 0, .string ⟨#[]⟩]) (by first | rfl | simp) (fun w' hw' hctx => ?_) (fun w' hw' hctx => and_t (andT a b) c (andT (andT a b) c) rfl w') ?_
    · go_simp
    simp only [Act.put, List.setIfInBounds_toArray, List.set_cons_zero, List.set_cons_succ]
    refine seqP_value (fun w => Below.refl _ _) _ (by first | rfl | simp) (fun w' hw' hctx => ?_) ?_
    · go_simp
      try first | with_reducible rfl | simp
    simp only [Act.put, List.setIfInBounds_toArray, List.set_cons_zero, List.set_cons_succ]
    refine seqP_value (fun w => Below.refl _ _) _ (by first | rfl | simp) (fun w' hw' hctx => ?_) ?_
    · obtain ⟨c0, c1, c2, c3, c4⟩ := A4.below (below_tr hd hw')
      go_simp
      try first | with_reducible rfl | simp
    simp only [Act.put, List.setIfInBounds_toArray, List.set_cons_zero, List.set_cons_succ]
    refine seqP_value (fun w => Below.refl _ _) _ (by first | rfl | simp) (fun w' hw' hctx => ?_) ?_
    · go_simp
      try first | with_reducible rfl | simp
    simp only [Act.put, List.setIfInBounds_toArray, List.set_cons_zero, List.set_cons_succ]
    refine seqP_value (fun w => Below.refl _ _) _ (by first | rfl | simp) (fun w' hw' hctx => ?_) ?_
    · obtain ⟨c0, c1, c2, c3, c4⟩ := B4.below (below_tr hd hw')
      go_simp
      try first | with_reducible rfl | simp
    simp only [Act.put, List.setIfInBounds_toArray, List.set_cons_zero, List.set_cons_succ]
    refine seqP_value (fun w => Below.refl _ _) _ (by first | rfl | simp) (fun w' hw' hctx => ?_) ?_
    · obtain ⟨c0, c1, c2, c3, c4⟩ := C4.below (below_tr hd hw')
      go_simp
      try first | with_reducible rfl | simp
    simp only [Act.put, List.setIfInBounds_toArray, List.set_cons_zero, List.set_cons_succ]
    refine seqP_call 37 #[.agg #[.int .u8 (tk b), .int .i64 (tn b), .int .i64 0, .string ⟨#[]⟩], .agg #[.int .u8 (tk c), .int .i64 (tn c), .int .i64 0, .string ⟨#[]⟩]] (.agg #[.int .u8 (tk (andT b c)), .int .i64 (tn (andT b c)), .int .i64 0, .string ⟨#[]⟩]) (by first | rfl | simp) (fun w' hw' hctx => ?_) (fun w' hw' hctx => and_t b c (andT b c) rfl w') ?_
    · go_simp
    simp only [Act.put, List.setIfInBounds_toArray, List.set_cons_zero, List.set_cons_succ]
    refine seqP_call 37 #[.agg #[.int .u8 (tk a), .int .i64 (tn a), .int .i64 0, .string ⟨#[]⟩], .agg #[.int .u8 (tk (andT b c)), .int .i64 (tn (andT b c)), .int .i64 0, .string ⟨#[]⟩]] (.agg #[.int .u8 (tk (andT (andT a b) c)), .int .i64 (tn (andT (andT a b) c)), .int .i64 0, .string ⟨#[]⟩]) (by first | rfl | simp) (fun w' hw' hctx => ?_) (fun w' hw' hctx => and_t a (andT b c) (andT (andT a b) c) HA3.out w') ?_
    · go_simp
    simp only [Act.put, List.setIfInBounds_toArray, List.set_cons_zero, List.set_cons_succ]
    refine seqP_value (fun w => Below.refl _ _) _ (by first | rfl | simp) (fun w' hw' hctx => ?_) ?_
    · go_simp
      try first | with_reducible rfl | simp
    simp only [Act.put, List.setIfInBounds_toArray, List.set_cons_zero, List.set_cons_succ]
    refine seqP_value (fun w => Below.refl _ _) _ (by first | rfl | simp) (fun w' hw' hctx => ?_) ?_
    · go_simp
      try first | with_reducible rfl | simp
    simp only [Act.put, List.setIfInBounds_toArray, List.set_cons_zero, List.set_cons_succ]
    refine seqP_value (fun w => Below.refl _ _) _ (by first | rfl | simp) (fun w' hw' hctx => ?_) ?_
    · go_simp
      try first | with_reducible rfl | simp
    simp only [Act.put, List.setIfInBounds_toArray, List.set_cons_zero, List.set_cons_succ]
    refine seqP_value (fun w => Below.refl _ _) _ (by first | rfl | simp) (fun w' hw' hctx => ?_) ?_
    · go_simp
      try first | with_reducible rfl | simp
    simp only [Act.put, List.setIfInBounds_toArray, List.set_cons_zero, List.set_cons_succ]
    refine seqP_value (fun w => Below.refl _ _) _ (by first | rfl | simp) (fun w' hw' hctx => ?_) ?_
    · go_simp
      try first | with_reducible rfl | simp
    simp only [Act.put, List.setIfInBounds_toArray, List.set_cons_zero, List.set_cons_succ]
    refine seqP_value (fun w => Below.refl _ _) _ (by first | rfl | simp) (fun w' hw' hctx => ?_) ?_
    · obtain ⟨c0, c1, c2, c3, c4⟩ := A4.below (below_tr hd hw')
      go_simp
      try first | with_reducible rfl | simp
    simp only [Act.put, List.setIfInBounds_toArray, List.set_cons_zero, List.set_cons_succ]
    refine seqP_value (fun w => Below.refl _ _) _ (by first | rfl | simp) (fun w' hw' hctx => ?_) ?_
    · obtain ⟨c0, c1, c2, c3, c4⟩ := B4.below (below_tr hd hw')
      go_simp
      try first | with_reducible rfl | simp
    simp only [Act.put, List.setIfInBounds_toArray, List.set_cons_zero, List.set_cons_succ]
    refine seqP_call 38 #[.agg #[.int .u8 (tk a), .int .i64 (tn a), .int .i64 0, .string ⟨#[]⟩], .agg #[.int .u8 (tk b), .int .i64 (tn b), .int .i64 0, .string ⟨#[]⟩]] (.agg #[.int .u8 (tk (orT a b)), .int .i64 (tn (orT a b)), .int .i64 0, .string ⟨#[]⟩]) (by first | rfl | simp) (fun w' hw' hctx => ?_) (fun w' hw' hctx => or_t a b (orT a b) rfl w') ?_
    · go_simp
    simp only [Act.put, List.setIfInBounds_toArray, List.set_cons_zero, List.set_cons_succ]
    refine seqP_value (fun w => Below.refl _ _) _ (by first | rfl | simp) (fun w' hw' hctx => ?_) ?_
    · obtain ⟨c0, c1, c2, c3, c4⟩ := C4.below (below_tr hd hw')
      go_simp
      try first | with_reducible rfl | simp
    simp only [Act.put, List.setIfInBounds_toArray, List.set_cons_zero, List.set_cons_succ]
    refine seqP_call 38 #[.agg #[.int .u8 (tk (orT a b)), .int .i64 (tn (orT a b)), .int .i64 0, .string ⟨#[]⟩], .agg #[.int .u8 (tk c), .int .i64 (tn c), .int .i64 0, .string ⟨#[]⟩]] (.agg #[.int .u8 (tk (orT (orT a b) c)), .int .i64 (tn (orT (orT a b) c)), .int .i64 0, .string ⟨#[]⟩]) (by first | rfl | simp) (fun w' hw' hctx => ?_) (fun w' hw' hctx => or_t (orT a b) c (orT (orT a b) c) rfl w') ?_
    · go_simp
    simp only [Act.put, List.setIfInBounds_toArray, List.set_cons_zero, List.set_cons_succ]
    refine seqP_value (fun w => Below.refl _ _) _ (by first | rfl | simp) (fun w' hw' hctx => ?_) ?_
    · go_simp
      try first | with_reducible rfl | simp
    simp only [Act.put, List.setIfInBounds_toArray, List.set_cons_zero, List.set_cons_succ]
    refine seqP_value (fun w => Below.refl _ _) _ (by first | rfl | simp) (fun w' hw' hctx => ?_) ?_
    · obtain ⟨c0, c1, c2, c3, c4⟩ := A4.below (below_tr hd hw')
      go_simp
      try first | with_reducible rfl | simp
    simp only [Act.put, List.setIfInBounds_toArray, List.set_cons_zero, List.set_cons_succ]
    refine seqP_value (fun w => Below.refl _ _) _ (by first | rfl | simp) (fun w' hw' hctx => ?_) ?_
    · go_simp
      try first | with_reducible rfl | simp
    simp only [Act.put, List.setIfInBounds_toArray, List.set_cons_zero, List.set_cons_succ]
    refine seqP_value (fun w => Below.refl _ _) _ (by first | rfl | simp) (fun w' hw' hctx => ?_) ?_
    · obtain ⟨c0, c1, c2, c3, c4⟩ := B4.below (below_tr hd hw')
      go_simp
      try first | with_reducible rfl | simp
    simp only [Act.put, List.setIfInBounds_toArray, List.set_cons_zero, List.set_cons_succ]
    refine seqP_value (fun w => Below.refl _ _) _ (by first | rfl | simp) (fun w' hw' hctx => ?_) ?_
    · obtain ⟨c0, c1, c2, c3, c4⟩ := C4.below (below_tr hd hw')
      go_simp
      try first | with_reducible rfl | simp
    simp only [Act.put, List.setIfInBounds_toArray, List.set_cons_zero, List.set_cons_succ]
    refine seqP_call 38 #[.agg #[.int .u8 (tk b), .int .i64 (tn b), .int .i64 0, .string ⟨#[]⟩], .agg #[.int .u8 (tk c), .int .i64 (tn c), .int .i64 0, .string ⟨#[]⟩]] (.agg #[.int .u8 (tk (orT b c)), .int .i64 (tn (orT b c)), .int .i64 0, .string ⟨#[]⟩]) (by first | rfl | simp) (fun w' hw' hctx => ?_) (fun w' hw' hctx => or_t b c (orT b c) rfl w') ?_
    · go_simp
    simp only [Act.put, List.setIfInBounds_toArray, List.set_cons_zero, List.set_cons_succ]
    refine seqP_call 38 #[.agg #[.int .u8 (tk a), .int .i64 (tn a), .int .i64 0, .string ⟨#[]⟩], .agg #[.int .u8 (tk (orT b c)), .int .i64 (tn (orT b c)), .int .i64 0, .string ⟨#[]⟩]] (.agg #[.int .u8 (tk (orT (orT a b) c)), .int .i64 (tn (orT (orT a b) c)), .int .i64 0, .string ⟨#[]⟩]) (by first | rfl | simp) (fun w' hw' hctx => ?_) (fun w' hw' hctx => or_t a (orT b c) (orT (orT a b) c) HO3.out w') ?_
    · go_simp
    simp only [Act.put, List.setIfInBounds_toArray, List.set_cons_zero, List.set_cons_succ]
    refine seqP_value (fun w => Below.refl _ _) _ (by first | rfl | simp) (fun w' hw' hctx => ?_) ?_
    · go_simp
      try first | with_reducible rfl | simp
    simp only [Act.put, List.setIfInBounds_toArray, List.set_cons_zero, List.set_cons_succ]
    refine seqP_value (fun w => Below.refl _ _) _ (by first | rfl | simp) (fun w' hw' hctx => ?_) ?_
    · go_simp
      try first | with_reducible rfl | simp
    simp only [Act.put, List.setIfInBounds_toArray, List.set_cons_zero, List.set_cons_succ]
    refine seqP_value (fun w => Below.refl _ _) _ (by first | rfl | simp) (fun w' hw' hctx => ?_) ?_
    · go_simp
      try first | with_reducible rfl | simp
    simp only [Act.put, List.setIfInBounds_toArray, List.set_cons_zero, List.set_cons_succ]
    refine seqP_value (fun w => Below.refl _ _) _ (by first | rfl | simp) (fun w' hw' hctx => ?_) ?_
    · go_simp
      try first | with_reducible rfl | simp
    simp only [Act.put, List.setIfInBounds_toArray, List.set_cons_zero, List.set_cons_succ]
    refine seqP_value (fun w => Below.refl _ _) _ (by first | rfl | simp) (fun w' hw' hctx => ?_) ?_
    · go_simp
      try first | with_reducible rfl | simp
    simp only [Act.put, List.setIfInBounds_toArray, List.set_cons_zero, List.set_cons_succ]
    refine seqP_value (fun w => Below.refl _ _) _ (by first | rfl | simp) (fun w' hw' hctx => ?_) ?_
    · obtain ⟨c0, c1, c2, c3, c4⟩ := A4.below (below_tr hd hw')
      go_simp
      try first | with_reducible rfl | simp
    simp only [Act.put, List.setIfInBounds_toArray, List.set_cons_zero, List.set_cons_succ]
    refine seqP_value (fun w => Below.refl _ _) _ (by first | rfl | simp) (fun w' hw' hctx => ?_) ?_
    · obtain ⟨c0, c1, c2, c3, c4⟩ := B4.below (below_tr hd hw')
      go_simp
      try first | with_reducible rfl | simp
    simp only [Act.put, List.setIfInBounds_toArray, List.set_cons_zero, List.set_cons_succ]
    refine seqP_call 37 #[.agg #[.int .u8 (tk a), .int .i64 (tn a), .int .i64 0, .string ⟨#[]⟩], .agg #[.int .u8 (tk b), .int .i64 (tn b), .int .i64 0, .string ⟨#[]⟩]] (.agg #[.int .u8 (tk (andT a b)), .int .i64 (tn (andT a b)), .int .i64 0, .string ⟨#[]⟩]) (by first | rfl | simp) (fun w' hw' hctx => ?_) (fun w' hw' hctx => and_t a b (andT a b) rfl w') ?_
    · go_simp
    simp only [Act.put, List.setIfInBounds_toArray, List.set_cons_zero, List.set_cons_succ]
    refine seqP_call 36 #[.agg #[.int .u8 (tk (andT a b)), .int .i64 (tn (andT a b)), .int .i64 0, .string ⟨#[]⟩]] (.agg #[.int .u8 (tk (notT (andT a b))), .int .i64 (tn (notT (andT a b))), .int .i64 0, .string ⟨#[]⟩]) (by first | rfl | simp) (fun w' hw' hctx => ?_) (fun w' hw' hctx => not_t (andT a b) (notT (andT a b)) rfl w') ?_
    · go_simp
    simp only [Act.put, List.setIfInBounds_toArray, List.set_cons_zero, List.set_cons_succ]
    refine seqP_value (fun w => Below.refl _ _) _ (by first | rfl | simp) (fun w' hw' hctx => ?_) ?_
    · go_simp
      try first | with_reducible rfl | simp
    simp only [Act.put, List.setIfInBounds_toArray, List.set_cons_zero, List.set_cons_succ]
    refine seqP_value (fun w => Below.refl _ _) _ (by first | rfl | simp) (fun w' hw' hctx => ?_) ?_
    · go_simp
      try first | with_reducible rfl | simp
    simp only [Act.put, List.setIfInBounds_toArray, List.set_cons_zero, List.set_cons_succ]
    refine seqP_value (fun w => Below.refl _ _) _ (by first | rfl | simp) (fun w' hw' hctx => ?_) ?_
    · obtain ⟨c0, c1, c2, c3, c4⟩ := A4.below (below_tr hd hw')
      go_simp
      try first | with_reducible rfl | simp
    simp only [Act.put, List.setIfInBounds_toArray, List.set_cons_zero, List.set_cons_succ]
    refine seqP_call 36 #[.agg #[.int .u8 (tk a), .int .i64 (tn a), .int .i64 0, .string ⟨#[]⟩]] (.agg #[.int .u8 (tk (notT a)), .int .i64 (tn (notT a)), .int .i64 0, .string ⟨#[]⟩]) (by first | rfl | simp) (fun w' hw' hctx => ?_) (fun w' hw' hctx => not_t a (notT a) rfl w') ?_
    · go_simp
    simp only [Act.put, List.setIfInBounds_toArray, List.set_cons_zero, List.set_cons_succ]
    refine seqP_value (fun w => Below.refl _ _) _ (by first | rfl | simp) (fun w' hw' hctx => ?_) ?_
    · go_simp
      try first | with_reducible rfl | simp
    simp only [Act.put, List.setIfInBounds_toArray, List.set_cons_zero, List.set_cons_succ]
    refine seqP_value (fun w => Below.refl _ _) _ (by first | rfl | simp) (fun w' hw' hctx => ?_) ?_
    · obtain ⟨c0, c1, c2, c3, c4⟩ := B4.below (below_tr hd hw')
      go_simp
      try first | with_reducible rfl | simp
    simp only [Act.put, List.setIfInBounds_toArray, List.set_cons_zero, List.set_cons_succ]
    refine seqP_call 36 #[.agg #[.int .u8 (tk b), .int .i64 (tn b), .int .i64 0, .string ⟨#[]⟩]] (.agg #[.int .u8 (tk (notT b)), .int .i64 (tn (notT b)), .int .i64 0, .string ⟨#[]⟩]) (by first | rfl | simp) (fun w' hw' hctx => ?_) (fun w' hw' hctx => not_t b (notT b) rfl w') ?_
    · go_simp
    simp only [Act.put, List.setIfInBounds_toArray, List.set_cons_zero, List.set_cons_succ]
    refine seqP_call 38 #[.agg #[.int .u8 (tk (notT a)), .int .i64 (tn (notT a)), .int .i64 0, .string ⟨#[]⟩], .agg #[.int .u8 (tk (notT b)), .int .i64 (tn (notT b)), .int .i64 0, .string ⟨#[]⟩]] (.agg #[.int .u8 (tk (notT (andT a b))), .int .i64 (tn (notT (andT a b))), .int .i64 0, .string ⟨#[]⟩]) (by first | rfl | simp) (fun w' hw' hctx => ?_) (fun w' hw' hctx => or_t (notT a) (notT b) (notT (andT a b)) HNA.out w') ?_
    · go_simp
    simp only [Act.put, List.setIfInBounds_toArray, List.set_cons_zero, List.set_cons_succ]
    refine seqP_value (fun w => Below.refl _ _) _ (by first | rfl | simp) (fun w' hw' hctx => ?_) ?_
    · go_simp
      try first | with_reducible rfl | simp
    simp only [Act.put, List.setIfInBounds_toArray, List.set_cons_zero, List.set_cons_succ]
    refine seqP_value (fun w => Below.refl _ _) _ (by first | rfl | simp) (fun w' hw' hctx => ?_) ?_
    · go_simp
      try first | with_reducible rfl | simp
    simp only [Act.put, List.setIfInBounds_toArray, List.set_cons_zero, List.set_cons_succ]
    refine seqP_value (fun w => Below.refl _ _) _ (by first | rfl | simp) (fun w' hw' hctx => ?_) ?_
    · go_simp
      try first | with_reducible rfl | simp
    simp only [Act.put, List.setIfInBounds_toArray, List.set_cons_zero, List.set_cons_succ]
    refine seqP_value (fun w => Below.refl _ _) _ (by first | rfl | simp) (fun w' hw' hctx => ?_) ?_
    · go_simp
      try first | with_reducible rfl | simp
    simp only [Act.put, List.setIfInBounds_toArray, List.set_cons_zero, List.set_cons_succ]
    refine seqP_value (fun w => Below.refl _ _) _ (by first | rfl | simp) (fun w' hw' hctx => ?_) ?_
    · go_simp
      try first | with_reducible rfl | simp
    simp only [Act.put, List.setIfInBounds_toArray, List.set_cons_zero, List.set_cons_succ]
    refine seqP_value (fun w => Below.refl _ _) _ (by first | rfl | simp) (fun w' hw' hctx => ?_) ?_
    · obtain ⟨c0, c1, c2, c3, c4⟩ := A4.below (below_tr hd hw')
      go_simp
      try first | with_reducible rfl | simp
    simp only [Act.put, List.setIfInBounds_toArray, List.set_cons_zero, List.set_cons_succ]
    refine seqP_value (fun w => Below.refl _ _) _ (by first | rfl | simp) (fun w' hw' hctx => ?_) ?_
    · obtain ⟨c0, c1, c2, c3, c4⟩ := B4.below (below_tr hd hw')
      go_simp
      try first | with_reducible rfl | simp
    simp only [Act.put, List.setIfInBounds_toArray, List.set_cons_zero, List.set_cons_succ]
    refine seqP_call 38 #[.agg #[.int .u8 (tk a), .int .i64 (tn a), .int .i64 0, .string ⟨#[]⟩], .agg #[.int .u8 (tk b), .int .i64 (tn b), .int .i64 0, .string ⟨#[]⟩]] (.agg #[.int .u8 (tk (orT a b)), .int .i64 (tn (orT a b)), .int .i64 0, .string ⟨#[]⟩]) (by first | rfl | simp) (fun w' hw' hctx => ?_) (fun w' hw' hctx => or_t a b (orT a b) rfl w') ?_
    · go_simp
    simp only [Act.put, List.setIfInBounds_toArray, List.set_cons_zero, List.set_cons_succ]
    refine seqP_call 36 #[.agg #[.int .u8 (tk (orT a b)), .int .i64 (tn (orT a b)), .int .i64 0, .string ⟨#[]⟩]] (.agg #[.int .u8 (tk (notT (orT a b))), .int .i64 (tn (notT (orT a b))), .int .i64 0, .string ⟨#[]⟩]) (by first | rfl | simp) (fun w' hw' hctx => ?_) (fun w' hw' hctx => not_t (orT a b) (notT (orT a b)) rfl w') ?_
    · go_simp
    simp only [Act.put, List.setIfInBounds_toArray, List.set_cons_zero, List.set_cons_succ]
    refine seqP_value (fun w => Below.refl _ _) _ (by first | rfl | simp) (fun w' hw' hctx => ?_) ?_
    · go_simp
      try first | with_reducible rfl | simp
    simp only [Act.put, List.setIfInBounds_toArray, List.set_cons_zero, List.set_cons_succ]
    refine seqP_value (fun w => Below.refl _ _) _ (by first | rfl | simp) (fun w' hw' hctx => ?_) ?_
    · go_simp
      try first | with_reducible rfl | simp
    simp only [Act.put, List.setIfInBounds_toArray, List.set_cons_zero, List.set_cons_succ]
    refine seqP_value (fun w => Below.refl _ _) _ (by first | rfl | simp) (fun w' hw' hctx => ?_) ?_
    · obtain ⟨c0, c1, c2, c3, c4⟩ := A4.below (below_tr hd hw')
      go_simp
      try first | with_reducible rfl | simp
    simp only [Act.put, List.setIfInBounds_toArray, List.set_cons_zero, List.set_cons_succ]
    refine seqP_call 36 #[.agg #[.int .u8 (tk a), .int .i64 (tn a), .int .i64 0, .string ⟨#[]⟩]] (.agg #[.int .u8 (tk (notT a)), .int .i64 (tn (notT a)), .int .i64 0, .string ⟨#[]⟩]) (by first | rfl | simp) (fun w' hw' hctx => ?_) (fun w' hw' hctx => not_t a (notT a) rfl w') ?_
    · go_simp
    simp only [Act.put, List.setIfInBounds_toArray, List.set_cons_zero, List.set_cons_succ]
    refine seqP_value (fun w => Below.refl _ _) _ (by first | rfl | simp) (fun w' hw' hctx => ?_) ?_
    · go_simp
      try first | with_reducible rfl | simp
    simp only [Act.put, List.setIfInBounds_toArray, List.set_cons_zero, List.set_cons_succ]
    refine seqP_value (fun w => Below.refl _ _) _ (by first | rfl | simp) (fun w' hw' hctx => ?_) ?_
    · obtain ⟨c0, c1, c2, c3, c4⟩ := B4.below (below_tr hd hw')
      go_simp
      try first | with_reducible rfl | simp
    simp only [Act.put, List.setIfInBounds_toArray, List.set_cons_zero, List.set_cons_succ]
    refine seqP_call 36 #[.agg #[.int .u8 (tk b), .int .i64 (tn b), .int .i64 0, .string ⟨#[]⟩]] (.agg #[.int .u8 (tk (notT b)), .int .i64 (tn (notT b)), .int .i64 0, .string ⟨#[]⟩]) (by first | rfl | simp) (fun w' hw' hctx => ?_) (fun w' hw' hctx => not_t b (notT b) rfl w') ?_
    · go_simp
    simp only [Act.put, List.setIfInBounds_toArray, List.set_cons_zero, List.set_cons_succ]
    refine seqP_call 37 #[.agg #[.int .u8 (tk (notT a)), .int .i64 (tn (notT a)), .int .i64 0, .string ⟨#[]⟩], .agg #[.int .u8 (tk (notT b)), .int .i64 (tn (notT b)), .int .i64 0, .string ⟨#[]⟩]] (.agg #[.int .u8 (tk (notT (orT a b))), .int .i64 (tn (notT (orT a b))), .int .i64 0, .string ⟨#[]⟩]) (by first | rfl | simp) (fun w' hw' hctx => ?_) (fun w' hw' hctx => and_t (notT a) (notT b) (notT (orT a b)) HNO.out w') ?_
    · go_simp
    simp only [Act.put, List.setIfInBounds_toArray, List.set_cons_zero, List.set_cons_succ]
    refine seqP_value (fun w => Below.refl _ _) _ (by first | rfl | simp) (fun w' hw' hctx => ?_) ?_
    · go_simp
      try first | with_reducible rfl | simp
    simp only [Act.put, List.setIfInBounds_toArray, List.set_cons_zero, List.set_cons_succ]
    refine seqP_value (fun w => Below.refl _ _) _ (by first | rfl | simp) (fun w' hw' hctx => ?_) ?_
    · go_simp
      try first | with_reducible rfl | simp
    simp only [Act.put, List.setIfInBounds_toArray, List.set_cons_zero, List.set_cons_succ]
    refine seqP_value (fun w => Below.refl _ _) _ (by first | rfl | simp) (fun w' hw' hctx => ?_) ?_
    · go_simp
      try first | with_reducible rfl | simp
    simp only [Act.put, List.setIfInBounds_toArray, List.set_cons_zero, List.set_cons_succ]
    refine seqP_value (fun w => Below.refl _ _) _ (by first | rfl | simp) (fun w' hw' hctx => ?_) ?_
    · go_simp
      try first | with_reducible rfl | simp
    simp only [Act.put, List.setIfInBounds_toArray, List.set_cons_zero, List.set_cons_succ]
    refine seqP_value (fun w => Below.refl _ _) _ (by first | rfl | simp) (fun w' hw' hctx => ?_) ?_
    · obtain ⟨c0, c1, c2, c3, c4⟩ := A4.below (below_tr hd hw')
      go_simp
      try first | with_reducible rfl | simp
    simp only [Act.put, List.setIfInBounds_toArray, List.set_cons_zero, List.set_cons_succ]
    refine seqP_value (fun w => Below.refl _ _) _ (by first | rfl | simp) (fun w' hw' hctx => ?_) ?_
    · go_simp
      try first | with_reducible rfl | simp
    simp only [Act.put, List.setIfInBounds_toArray, List.set_cons_zero, List.set_cons_succ]
    refine seqP_value (fun w => Below.refl _ _) _ (by first | rfl | simp) (fun w' hw' hctx => ?_) ?_
    · obtain ⟨c0, c1, c2, c3, c4⟩ := B4.below (below_tr hd hw')
      go_simp
      try first | with_reducible rfl | simp
    simp only [Act.put, List.setIfInBounds_toArray, List.set_cons_zero, List.set_cons_succ]
    refine seqP_value (fun w => Below.refl _ _) _ (by first | rfl | simp) (fun w' hw' hctx => ?_) ?_
    · obtain ⟨c0, c1, c2, c3, c4⟩ := C4.below (below_tr hd hw')
      go_simp
      try first | with_reducible rfl | simp
    simp only [Act.put, List.setIfInBounds_toArray, List.set_cons_zero, List.set_cons_succ]
    refine seqP_call 38 #[.agg #[.int .u8 (tk b), .int .i64 (tn b), .int .i64 0, .string ⟨#[]⟩], .agg #[.int .u8 (tk c), .int .i64 (tn c), .int .i64 0, .string ⟨#[]⟩]] (.agg #[.int .u8 (tk (orT b c)), .int .i64 (tn (orT b c)), .int .i64 0, .string ⟨#[]⟩]) (by first | rfl | simp) (fun w' hw' hctx => ?_) (fun w' hw' hctx => or_t b c (orT b c) rfl w') ?_
    · go_simp
    simp only [Act.put, List.setIfInBounds_toArray, List.set_cons_zero, List.set_cons_succ]
    refine seqP_call 37 #[.agg #[.int .u8 (tk a), .int .i64 (tn a), .int .i64 0, .string ⟨#[]⟩], .agg #[.int .u8 (tk (orT b c)), .int .i64 (tn (orT b c)), .int .i64 0, .string ⟨#[]⟩]] (.agg #[.int .u8 (tk (andT a (orT b c))), .int .i64 (tn (andT a (orT b c))), .int .i64 0, .string ⟨#[]⟩]) (by first | rfl | simp) (fun w' hw' hctx => ?_) (fun w' hw' hctx => and_t a (orT b c) (andT a (orT b c)) rfl w') ?_
    · go_simp
    simp only [Act.put, List.setIfInBounds_toArray, List.set_cons_zero, List.set_cons_succ]
    refine seqP_value (fun w => Below.refl _ _) _ (by first | rfl | simp) (fun w' hw' hctx => ?_) ?_
    · go_simp
      try first | with_reducible rfl | simp
    simp only [Act.put, List.setIfInBounds_toArray, List.set_cons_zero, List.set_cons_succ]
    refine seqP_value (fun w => Below.refl _ _) _ (by first | rfl | simp) (fun w' hw' hctx => ?_) ?_
    · go_simp
      try first | with_reducible rfl | simp
    simp only [Act.put, List.setIfInBounds_toArray, List.set_cons_zero, List.set_cons_succ]
    refine seqP_value (fun w => Below.refl _ _) _ (by first | rfl | simp) (fun w' hw' hctx => ?_) ?_
    · obtain ⟨c0, c1, c2, c3, c4⟩ := A4.below (below_tr hd hw')
      go_simp
      try first | with_reducible rfl | simp
    simp only [Act.put, List.setIfInBounds_toArray, List.set_cons_zero, List.set_cons_succ]
    refine seqP_value (fun w => Below.refl _ _) _ (by first | rfl | simp) (fun w' hw' hctx => ?_) ?_
    · obtain ⟨c0, c1, c2, c3, c4⟩ := B4.below (below_tr hd hw')
      go_simp
      try first | with_reducible rfl | simp
    simp only [Act.put, List.setIfInBounds_toArray, List.set_cons_zero, List.set_cons_succ]
    refine seqP_call 37 #[.agg #[.int .u8 (tk a), .int .i64 (tn a), .int .i64 0, .string ⟨#[]⟩], .agg #[.int .u8 (tk b), .int .i64 (tn b), .int .i64 0, .string ⟨#[]⟩]] (.agg #[.int .u8 (tk (andT a b)), .int .i64 (tn (andT a b)), .int .i64 0, .string ⟨#[]⟩]) (by first | rfl | simp) (fun w' hw' hctx => ?_) (fun w' hw' hctx => and_t a b (andT a b) rfl w') ?_
    · go_simp
    simp only [Act.put, List.setIfInBounds_toArray, List.set_cons_zero, List.set_cons_succ]
    refine seqP_value (fun w => Below.refl _ _) _ (by first | rfl | simp) (fun w' hw' hctx => ?_) ?_
    · go_simp
      try first | with_reducible rfl | simp
    simp only [Act.put, List.setIfInBounds_toArray, List.set_cons_zero, List.set_cons_succ]
    refine seqP_value (fun w => Below.refl _ _) _ (by first | rfl | simp) (fun w' hw' hctx => ?_) ?_
    · obtain ⟨c0, c1, c2, c3, c4⟩ := A4.below (below_tr hd hw')
      go_simp
      try first | with_reducible rfl | simp
    simp only [Act.put, List.setIfInBounds_toArray, List.set_cons_zero, List.set_cons_succ]
    refine seqP_value (fun w => Below.refl _ _) _ (by first | rfl | simp) (fun w' hw' hctx => ?_) ?_
    · obtain ⟨c0, c1, c2, c3, c4⟩ := C4.below (below_tr hd hw')
      go_simp
      try first | with_reducible rfl | simp
    simp only [Act.put, List.setIfInBounds_toArray, List.set_cons_zero, List.set_cons_succ]
    refine seqP_call 37 #[.agg #[.int .u8 (tk a), .int .i64 (tn a), .int .i64 0, .string ⟨#[]⟩], .agg #[.int .u8 (tk c), .int .i64 (tn c), .int .i64 0, .string ⟨#[]⟩]] (.agg #[.int .u8 (tk (andT a c)), .int .i64 (tn (andT a c)), .int .i64 0, .string ⟨#[]⟩]) (by first | rfl | simp) (fun w' hw' hctx => ?_) (fun w' hw' hctx => and_t a c (andT a c) rfl w') ?_
    · go_simp
    simp only [Act.put, List.setIfInBounds_toArray, List.set_cons_zero, List.set_cons_succ]
    refine seqP_call 38 #[.agg #[.int .u8 (tk (andT a b)), .int .i64 (tn (andT a b)), .int .i64 0, .string ⟨#[]⟩], .agg #[.int .u8 (tk (andT a c)), .int .i64 (tn (andT a c)), .int .i64 0, .string ⟨#[]⟩]] (.agg #[.int .u8 (tk (andT a (orT b c))), .int .i64 (tn (andT a (orT b c))), .int .i64 0, .string ⟨#[]⟩]) (by first | rfl | simp) (fun w' hw' hctx => ?_) (fun w' hw' hctx => or_t (andT a b) (andT a c) (andT a (orT b c)) HDI.out w') ?_
    · go_simp
    simp only [Act.put, List.setIfInBounds_toArray, List.set_cons_zero, List.set_cons_succ]
    refine seqP_value (fun w => Below.refl _ _) _ (by first | rfl | simp) (fun w' hw' hctx => ?_) ?_
    · go_simp
      try first | with_reducible rfl | simp
    simp only [Act.put, List.setIfInBounds_toArray, List.set_cons_zero, List.set_cons_succ]
    refine seqP_value (fun w => Below.refl _ _) _ (by first | rfl | simp) (fun w' hw' hctx => ?_) ?_
    · go_simp
      try first | with_reducible rfl | simp
    simp only [Act.put, List.setIfInBounds_toArray, List.set_cons_zero, List.set_cons_succ]
    refine seqP_value (fun w => Below.refl _ _) _ (by first | rfl | simp) (fun w' hw' hctx => ?_) ?_
    · go_simp
      try first | with_reducible rfl | simp
    simp only [Act.put, List.setIfInBounds_toArray, List.set_cons_zero, List.set_cons_succ]
    refine seqP_value (fun w => Below.refl _ _) _ (by first | rfl | simp) (fun w' hw' hctx => ?_) ?_
    · go_simp
      try first | with_reducible rfl | simp
    simp only [Act.put, List.setIfInBounds_toArray, List.set_cons_zero, List.set_cons_succ]
    refine seqP_value (fun w => Below.refl _ _) _ (by first | rfl | simp) (fun w' hw' hctx => ?_) ?_
    · obtain ⟨c0, c1, c2, c3, c4⟩ := A4.below (below_tr hd hw')
      go_simp
      try first | with_reducible rfl | simp
    simp only [Act.put, List.setIfInBounds_toArray, List.set_cons_zero, List.set_cons_succ]
    refine seqP_value (fun w => Below.refl _ _) _ (by first | rfl | simp) (fun w' hw' hctx => ?_) ?_
    · go_simp
      try first | with_reducible rfl | simp
    simp only [Act.put, List.setIfInBounds_toArray, List.set_cons_zero, List.set_cons_succ]
    refine seqP_value (fun w => Below.refl _ _) _ (by first | rfl | simp) (fun w' hw' hctx => ?_) ?_
    · obtain ⟨c0, c1, c2, c3, c4⟩ := A4.below (below_tr hd hw')
      go_simp
      try first | with_reducible rfl | simp
    simp only [Act.put, List.setIfInBounds_toArray, List.set_cons_zero, List.set_cons_succ]
    refine seqP_value (fun w => Below.refl _ _) _ (by first | rfl | simp) (fun w' hw' hctx => ?_) ?_
    · obtain ⟨c0, c1, c2, c3, c4⟩ := B4.below (below_tr hd hw')
      go_simp
      try first | with_reducible rfl | simp
    simp only [Act.put, List.setIfInBounds_toArray, List.set_cons_zero, List.set_cons_succ]
    refine seqP_call 38 #[.agg #[.int .u8 (tk a), .int .i64 (tn a), .int .i64 0, .string ⟨#[]⟩], .agg #[.int .u8 (tk b), .int .i64 (tn b), .int .i64 0, .string ⟨#[]⟩]] (.agg #[.int .u8 (tk (orT a b)), .int .i64 (tn (orT a b)), .int .i64 0, .string ⟨#[]⟩]) (by first | rfl | simp) (fun w' hw' hctx => ?_) (fun w' hw' hctx => or_t a b (orT a b) rfl w') ?_
    · go_simp
    simp only [Act.put, List.setIfInBounds_toArray, List.set_cons_zero, List.set_cons_succ]
    refine seqP_call 37 #[.agg #[.int .u8 (tk a), .int .i64 (tn a), .int .i64 0, .string ⟨#[]⟩], .agg #[.int .u8 (tk (orT a b)), .int .i64 (tn (orT a b)), .int .i64 0, .string ⟨#[]⟩]] (.agg #[.int .u8 (tk a), .int .i64 (tn a), .int .i64 0, .string ⟨#[]⟩]) (by first | rfl | simp) (fun w' hw' hctx => ?_) (fun w' hw' hctx => and_t a (orT a b) a HAO.out w') ?_
    · go_simp
    simp only [Act.put, List.setIfInBounds_toArray, List.set_cons_zero, List.set_cons_succ]
    refine seqP_value (fun w => Below.refl _ _) _ (by first | rfl | simp) (fun w' hw' hctx => ?_) ?_
    · obtain ⟨c0, c1, c2, c3, c4⟩ := A4.below (below_tr hd hw')
      go_simp
      try first | with_reducible rfl | simp
    simp only [Act.put, List.setIfInBounds_toArray, List.set_cons_zero, List.set_cons_succ]
    refine seqP_value (fun w => Below.refl _ _) _ (by first | rfl | simp) (fun w' hw' hctx => ?_) ?_
    · go_simp
      try first | with_reducible rfl | simp
    simp only [Act.put, List.setIfInBounds_toArray, List.set_cons_zero, List.set_cons_succ]
    refine seqP_value (fun w => Below.refl _ _) _ (by first | rfl | simp) (fun w' hw' hctx => ?_) ?_
    · go_simp
      try first | with_reducible rfl | simp
    simp only [Act.put, List.setIfInBounds_toArray, List.set_cons_zero, List.set_cons_succ]
    refine seqP_value (fun w => Below.refl _ _) _ (by first | rfl | simp) (fun w' hw' hctx => ?_) ?_
    · go_simp
      try first | with_reducible rfl | simp
    simp only [Act.put, List.setIfInBounds_toArray, List.set_cons_zero, List.set_cons_succ]
    refine seqP_nil (fun v11 hR hctx => ?_)
    have hv11 := below_tr hd hR
    clear hctx hR hd
    have A5 := A4.below hv11
    have B5 := B4.below hv11
    have C5 := C4.below hv11
    have hw5 := below_tr hw4 hv11
    clear A4 B4 C4
    clear hv11
    go_wp2_with fail
    go_ret
    exact ⟨rfl, hw5⟩

def tof : Nat → Option Bool
  | 0 => some false
  | 1 => some true
  | _ => none

theorem tof_fits (i : Nat) (hi : i < 3) (W : World) (g : Nat) (h0 : BoxAt W g 0 1 2 3 2 0 0 ⟨#[]⟩) (h1 : BoxAt W g 4 5 6 7 2 1 0 ⟨#[]⟩) (h2 : BoxAt W g 8 9 10 11 0 0 0 ⟨#[]⟩) :
    W.cell? ⟨g, i * 4, none⟩ = some (.int .u8 (tk (tof i))) ∧ W.cell? ⟨g, i * 4 + 1, none⟩ = some (.int .i64 (tn (tof i))) ∧ W.cell? ⟨g, i * 4 + 2, none⟩ = some (.int .i64 0) ∧ W.cell? ⟨g, i * 4 + 3, none⟩ = some (.string ⟨#[]⟩) := by
  obtain ⟨a0, a1, a2, a3, _⟩ := h0
  obtain ⟨b0, b1, b2, b3, _⟩ := h1
  obtain ⟨c0, c1, c2, c3, _⟩ := h2
  match i, hi with
  | 0, _ => exact ⟨a0, a1, a2, a3⟩
  | 1, _ => exact ⟨b0, b1, b2, b3⟩
  | 2, _ => exact ⟨c0, c1, c2, c3⟩

theorem mod3 (x : Int) (h : 0 ≤ x) : ∃ i : Nat, i < 3 ∧ x.tmod 3 = (i : Int) := by
  refine ⟨(x % 3).toNat, by omega, ?_⟩
  rw [Int.tmod_eq_emod_of_nonneg h]
  omega

theorem laws_any (x y z : Int) (hx : 0 ≤ x) (hy : 0 ≤ y) (hz : 0 ≤ z) (w : World) :
    Calls Try.prog 5 #[.int .u8 x, .int .u8 y, .int .u8 z] w fun e w' => e = .returned (.bool true) ∧ Below w.heap.size w w' := by
  obtain ⟨i, hi, ei⟩ := mod3 x hx
  obtain ⟨j, hj, ej⟩ := mod3 y hy
  obtain ⟨l, hl, el⟩ := mod3 z hz
  refine laws_walk x y z i j l (tof i) (tof j) (tof l) hi hj hl ei ej el (fun W g h0 h1 h2 => ?_) w
  obtain ⟨p0, p1, p2, p3⟩ := tof_fits i hi W g h0 h1 h2
  obtain ⟨q0, q1, q2, q3⟩ := tof_fits j hj W g h0 h1 h2
  obtain ⟨r0, r1, r2, r3⟩ := tof_fits l hl W g h0 h1 h2
  exact ⟨p0, p1, p2, p3, q0, q1, q2, q3, r0, r1, r2, r3⟩
end Go.Proofs.Ytmbjhahlbbhdaaa
