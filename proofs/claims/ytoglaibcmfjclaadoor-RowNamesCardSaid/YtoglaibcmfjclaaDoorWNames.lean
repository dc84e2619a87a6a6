/-
  The law RowNames, walked.
-/
import Derived.Test.YtoglaibcmfjclaaDoorWFits
import Derived.Test.YtoglaibcmfjclaaDoorWApart
namespace Go.Proofs.YtoglaibcmfjclaaDoor
open Go.RowKit

def vc : Val := ⟨3, 0, 0, ⟨#[44, 32]⟩⟩
theorem wf_vc : vc.wf := ⟨by decide, by decide, i64_0, i64_0, by decide⟩
def vq : Val := ⟨3, 0, 0, ⟨#[39]⟩⟩
theorem wf_vq : vq.wf := ⟨by decide, by decide, i64_0, i64_0, by decide⟩
def vo : Val := ⟨3, 0, 0, ⟨#[40]⟩⟩
theorem wf_vo : vo.wf := ⟨by decide, by decide, i64_0, i64_0, by decide⟩
def vl : Val := ⟨3, 0, 0, ⟨#[41]⟩⟩
theorem wf_vl : vl.wf := ⟨by decide, by decide, i64_0, i64_0, by decide⟩
def vs : Val := ⟨4, 1, 2, ⟨#[]⟩⟩
theorem wf_vs : vs.wf := ⟨by decide, by decide, i64_1, (by unfold I64; decide), by decide⟩
def vy : Val := ⟨2, 1, 0, ⟨#[]⟩⟩
theorem wf_vy : vy.wf := ⟨by decide, by decide, i64_1, i64_0, by decide⟩
def ve : Val := ⟨3, 0, 0, ⟨#[]⟩⟩
theorem wf_ve : ve.wf := ⟨by decide, by decide, i64_0, i64_0, by decide⟩
def vb : Val := ⟨1, 0, 0, ⟨#[120]⟩⟩
theorem wf_vb : vb.wf := ⟨by decide, by decide, i64_0, i64_0, by decide⟩
theorem wf_v1 : v1.wf := wf1
theorem wf_va : va.wf := wfa
theorem wf_v0 : Val.zero.wf := wf0

theorem s0 : rowT [vc, vq, v1] = [40, 39, 44, 32, 39, 44, 32, 39, 39, 39, 39, 44, 32, 49, 41] := by decide +kernel
theorem s0m : ([vc, vq, v1] : List Val).all mayV = true := by decide +kernel
theorem s1 : rowT [vo, vl] = [40, 39, 40, 39, 44, 32, 39, 41, 39, 41] := by decide +kernel
theorem s1m : ([vo, vl] : List Val).all mayV = true := by decide +kernel
theorem s2 : rowT [vs, vy] = [40, 91, 49, 44, 50, 41, 44, 32, 121, 101, 115, 41] := by decide +kernel
theorem s2m : ([vs, vy] : List Val).all mayV = true := by decide +kernel
theorem s3 : rowT [ve] = [40, 39, 39, 41] := by decide +kernel
theorem s3m : ([ve] : List Val).all mayV = true := by decide +kernel

def strs : List ByteArray := [⟨#[]⟩, ⟨#[40]⟩, ⟨#[41]⟩, ⟨#[40, 49]⟩, ⟨#[49, 41]⟩, ⟨#[40, 49, 41, 40, 50, 41]⟩, ⟨#[40, 32, 49, 41]⟩, ⟨#[40, 49, 32, 41]⟩, ⟨#[40, 49, 44, 32, 50, 44, 41]⟩, ⟨#[40, 44, 32, 41]⟩, ⟨#[40, 49, 44, 32, 32, 50, 41]⟩, ⟨#[40, 49, 59, 32, 50, 41]⟩, ⟨#[40, 39, 97, 41]⟩, ⟨#[40, 39, 97, 39, 44, 32, 41]⟩, ⟨#[91, 49, 44, 32, 50, 41]⟩, ⟨#[40, 40, 41, 41]⟩, ⟨#[40, 49, 41, 120]⟩]
theorem strs_none : strs.all (fun x => (rowP x.data.toList).isNone) = true := by decide +kernel
theorem strs_small : strs.all (fun x => decide (x.size ≤ 100)) = true := by decide +kernel
theorem strs_len : strs.length = 17 := rfl

theorem strs_at (W : World) (i : Nat) (x : ByteArray) (hx : strs[i]? = some x) : (W.alloc (.cells (strs.map Value.string).toArray 9)).cell? ⟨W.heap.size, i, none⟩ = some (.string x) := by
  rw [World.cell?_alloc_at _ _ _ _ (by simp)]
  simp [hx]

/-- A slice of the values l. -/
def IsR (l : List Val) (W : World) (v : Value) : Prop := ∃ a c, v = .slice a l.length c ∧ SlL W a c l

theorem IsR.below {W W' : World} {l : List Val} {v : Value} (h : IsR l W v) (hb : Below W.heap.size W W') : IsR l W' v := by
  obtain ⟨a, c, e, hs⟩ := h
  exact ⟨a, c, e, hs.below hb⟩

def colA : Col := ⟨⟨#[97]⟩, 1, 0, 0, 0, ⟨#[]⟩⟩
def colB : Col := ⟨⟨#[98]⟩, 3, 0, 0, 0, ⟨#[]⟩⟩

theorem newC (w : World) : SlC (w.alloc (.cells #[.string ⟨#[97]⟩, .int .u8 1, .int .u8 0, .int .i64 0, .int .i64 0, .string ⟨#[]⟩, .string ⟨#[98]⟩, .int .u8 3, .int .u8 0, .int .i64 0, .int .i64 0, .string ⟨#[]⟩] 31)) (some ⟨w.heap.size, 0, none⟩) 2 [colA, colB] := by
  refine ⟨Nat.le_refl _, by unfold maxLen; omega, fun _ => ⟨w.heap.size, 0, rfl, fun i x hx => ?_⟩⟩
  have hi : i < 2 := (List.getElem?_eq_some_iff.1 hx).1
  rcases (show i = 0 ∨ i = 1 by omega) with rfl | rfl
  · simp at hx
    subst hx
    refine ⟨?_, ?_, ?_, ?_, ?_, ?_, by simp⟩ <;> (unfold colA; go_simp)
  · simp at hx
    subst hx
    refine ⟨?_, ?_, ?_, ?_, ?_, ?_, by simp⟩ <;> (unfold colB; go_simp)

set_option maxRecDepth 100000 in
set_option maxHeartbeats 16000000 in
theorem names_a (w : World) (hg : Good w) :
    Calls Tryd.prog 3 #[] w fun e w' => e = .returned (.bool true) ∧ Below w.heap.size w w' := by
  have HB0 : Hid (Below w.heap.size w w) := Lib.hid (Below.refl _ _)
  have HG := Lib.hid hg
  clear hg
  go_enter Tryd.func3, Tryd.ntmps3
  have hcon := fun (W : World) (hB : Below w.heap.size w W) => works_is W (HG.out.below hB)
  go_wp2_with fail
  refine (hcon _ HB0.out).mono ?_
  rintro e w1 ⟨rfl, hb1⟩
  have HB1 : Hid (Below w.heap.size w w1) := Lib.hid (below_tr HB0.out hb1)
  clear hcon hb1
  have hcon := fun (W : World) (hB : Below w.heap.size w W) => ltext_is ⟨#[44, 32]⟩ W
  go_wp2_with fail
  refine (hcon _ HB1.out).mono ?_
  rintro e w2 ⟨rfl, hb2⟩
  have HB2 : Hid (Below w.heap.size w w2) := Lib.hid (below_tr HB1.out hb2)
  clear hcon hb2
  have hcon := fun (W : World) (hB : Below w.heap.size w W) => ltext_is ⟨#[39]⟩ W
  go_wp2_with fail
  refine (hcon _ HB2.out).mono ?_
  rintro e w3 ⟨rfl, hb3⟩
  have HB3 : Hid (Below w.heap.size w w3) := Lib.hid (below_tr HB2.out hb3)
  clear hcon hb3
  have hcon := fun (W : World) (hB : Below w.heap.size w W) => number_is 1 W
  go_wp2_with fail
  refine (hcon _ HB3.out).mono ?_
  rintro e w4 ⟨rfl, hb4⟩
  have HB4 : Hid (Below w.heap.size w w4) := Lib.hid (below_tr HB3.out hb4)
  clear hcon hb4
  have hn := newL w4 [vc, vq, v1] (by intro x hx; simp at hx; rcases hx with rfl | rfl | rfl <;> first | exact wf_vc | exact wf_vq | exact wf_v1 ) (by simp)
  have hal := Below.allocs w4 (.cells (flatL [vc, vq, v1]).toArray 25)
  have hcon := says_is ⟨#[40, 39, 44, 32, 39, 44, 32, 39, 39, 39, 39, 44, 32, 49, 41]⟩ (by decide) _ _ 3 [vc, vq, v1] rfl s0m s0 _ ((HG.out.below HB4.out).below hal) hn
  have hbz := below_tr HB4.out hal
  have HBZ := Lib.hid hbz
  clear hn hal hbz
  go_wp2_with fail
  refine (show Calls Tryd.prog _ _ _ _ from hcon).mono ?_
  rintro e w5 ⟨rfl, hb5⟩
  have HB5 : Hid (Below w.heap.size w w5) := Lib.hid (below_tr HBZ.out hb5)
  clear hcon hb5 HBZ
  have hcon := fun (W : World) (hB : Below w.heap.size w W) => ltext_is ⟨#[40]⟩ W
  go_wp2_with fail
  refine (hcon _ HB5.out).mono ?_
  rintro e w6 ⟨rfl, hb6⟩
  have HB6 : Hid (Below w.heap.size w w6) := Lib.hid (below_tr HB5.out hb6)
  clear hcon hb6
  have hcon := fun (W : World) (hB : Below w.heap.size w W) => ltext_is ⟨#[41]⟩ W
  go_wp2_with fail
  refine (hcon _ HB6.out).mono ?_
  rintro e w7 ⟨rfl, hb7⟩
  have HB7 : Hid (Below w.heap.size w w7) := Lib.hid (below_tr HB6.out hb7)
  clear hcon hb7
  have hn := newL w7 [vo, vl] (by intro x hx; simp at hx; rcases hx with rfl | rfl <;> first | exact wf_vo | exact wf_vl ) (by simp)
  have hal := Below.allocs w7 (.cells (flatL [vo, vl]).toArray 25)
  have hcon := says_is ⟨#[40, 39, 40, 39, 44, 32, 39, 41, 39, 41]⟩ (by decide) _ _ 2 [vo, vl] rfl s1m s1 _ ((HG.out.below HB7.out).below hal) hn
  have hbz := below_tr HB7.out hal
  have HBZ := Lib.hid hbz
  clear hn hal hbz
  go_wp2_with fail
  refine (show Calls Tryd.prog _ _ _ _ from hcon).mono ?_
  rintro e w8 ⟨rfl, hb8⟩
  have HB8 : Hid (Below w.heap.size w w8) := Lib.hid (below_tr HBZ.out hb8)
  clear hcon hb8 HBZ
  have hn := newL w8 [vs, vy] (by intro x hx; simp at hx; rcases hx with rfl | rfl <;> first | exact wf_vs | exact wf_vy ) (by simp)
  have hal := Below.allocs w8 (.cells (flatL [vs, vy]).toArray 25)
  have hcon := says_is ⟨#[40, 91, 49, 44, 50, 41, 44, 32, 121, 101, 115, 41]⟩ (by decide) _ _ 2 [vs, vy] rfl s2m s2 _ ((HG.out.below HB8.out).below hal) hn
  have hbz := below_tr HB8.out hal
  have HBZ := Lib.hid hbz
  clear hn hal hbz
  go_wp2_with fail
  refine (show Calls Tryd.prog _ _ _ _ from hcon).mono ?_
  rintro e w9 ⟨rfl, hb9⟩
  have HB9 : Hid (Below w.heap.size w w9) := Lib.hid (below_tr HBZ.out hb9)
  clear hcon hb9 HBZ
  have hcon := fun (W : World) (hB : Below w.heap.size w W) => ltext_is ⟨#[]⟩ W
  go_wp2_with fail
  refine (hcon _ HB9.out).mono ?_
  rintro e w10 ⟨rfl, hb10⟩
  have HB10 : Hid (Below w.heap.size w w10) := Lib.hid (below_tr HB9.out hb10)
  clear hcon hb10
  have hn := newL w10 [ve] (by intro x hx; simp at hx; rw [hx]; exact wf_ve) (by simp)
  have hal := Below.allocs w10 (.cells (flatL [ve]).toArray 25)
  have hcon := says_is ⟨#[40, 39, 39, 41]⟩ (by decide) _ _ 1 [ve] rfl s3m s3 _ ((HG.out.below HB10.out).below hal) hn
  have hbz := below_tr HB10.out hal
  have HBZ := Lib.hid hbz
  clear hn hal hbz
  go_wp2_with fail
  refine (show Calls Tryd.prog _ _ _ _ from hcon).mono ?_
  rintro e w11 ⟨rfl, hb11⟩
  have HB11 : Hid (Below w.heap.size w w11) := Lib.hid (below_tr HBZ.out hb11)
  clear hcon hb11 HBZ
  have hst := strs_at w11
  have hal := Below.allocs w11 (.cells (strs.map Value.string).toArray 9)
  have HST : Hid (∀ (i : Nat) (x : ByteArray), strs[i]? = some x → (w11.alloc (.cells (strs.map Value.string).toArray 9)).cell? ⟨w11.heap.size, i, none⟩ = some (.string x)) := Lib.hid hst
  have HAL := Lib.hid hal
  clear hst hal
  obtain ⟨U, hU⟩ : ∃ U, w11.alloc (.cells (strs.map Value.string).toArray 9) = U := ⟨_, rfl⟩
  obtain ⟨g, hgg0⟩ : ∃ g, w11.heap.size = g := ⟨_, rfl⟩
  have HU : Hid ((∀ (i : Nat) (x : ByteArray), strs[i]? = some x → U.cell? ⟨g, i, none⟩ = some (.string x)) ∧ g < U.heap.size ∧ Below w.heap.size w U) := Lib.hid ⟨by rw [← hU, ← hgg0]; exact HST.out, by rw [← hU, ← hgg0]; simp, by rw [← hU]; exact below_tr HB11.out HAL.out⟩
  clear HST HAL
  have hU2 : w11.alloc (.cells #[.string ⟨#[]⟩, .string ⟨#[40]⟩, .string ⟨#[41]⟩, .string ⟨#[40, 49]⟩, .string ⟨#[49, 41]⟩, .string ⟨#[40, 49, 41, 40, 50, 41]⟩, .string ⟨#[40, 32, 49, 41]⟩, .string ⟨#[40, 49, 32, 41]⟩, .string ⟨#[40, 49, 44, 32, 50, 44, 41]⟩, .string ⟨#[40, 44, 32, 41]⟩, .string ⟨#[40, 49, 44, 32, 32, 50, 41]⟩, .string ⟨#[40, 49, 59, 32, 50, 41]⟩, .string ⟨#[40, 39, 97, 41]⟩, .string ⟨#[40, 39, 97, 39, 44, 32, 41]⟩, .string ⟨#[91, 49, 44, 32, 50, 41]⟩, .string ⟨#[40, 40, 41, 41]⟩, .string ⟨#[40, 49, 41, 120]⟩] 9) = U := hU
  clear hU
  go_wp2_with fail
  go_loopg [41] 17 (fun gg s wr => ∃ i : Nat, s = .int .i64 i ∧ i ≤ 17 ∧ 17 - i ≤ gg ∧ Hid (Below U.heap.size U wr))
  case atStart => exact ⟨0, rfl, by omega, by omega, Lib.hid (Below.refl _ _)⟩
  case round =>
    obtain ⟨i, rfl, hin, hgg, BW⟩ := hrel
    by_cases hlt : i < 17
    · have hltz : (i : Int) < 17 := by omega
      have z1 : ¬ 17 ≤ i := by omega
      obtain ⟨x, hx⟩ : ∃ x, strs[i]? = some x := ⟨strs[i]'(by rw [strs_len]; exact hlt), by simp⟩
      have hc := HU.out.1 i x hx
      have hcw : wr.cell? ⟨g, i, none⟩ = some (.string x) := by rw [BW.out.cell (p := ⟨g, i, none⟩) HU.out.2.1]; exact hc
      have hxn : rowP x.data.toList = none := none_of (List.all_eq_true.1 strs_none x (List.mem_of_getElem? hx))
      have hxs : x.size ≤ 100 := by simpa using List.all_eq_true.1 strs_small x (List.mem_of_getElem? hx)
      have hcon := none_is x (by omega) hxn wr (HG.out.below (below_tr HU.out.2.2 BW.out))
      clear hx hc hxn hxs
      go_wp2_with fail
      refine hcon.mono ?_
      rintro e wa ⟨rfl, hba⟩
      have HBA := Lib.hid (below_tr BW.out hba)
      clear hcon hba hcw
      go_wp2_with fail
      go_roundg (17 - (i + 1))
      case measure => omega
      case rel => exact ⟨i + 1, by go_num, by omega, Nat.le_refl _, HBA⟩
    · have hltz : ¬ (i : Int) < 17 := by omega
      have HB50 : Hid (Below w.heap.size w wr) := Lib.hid (below_tr HU.out.2.2 BW.out)
      obtain ⟨h, hh⟩ : ∃ h, wr.heap.size = h := ⟨_, rfl⟩
      obtain ⟨Z, hZ⟩ : ∃ Z, (wr.alloc (.cells #[.string ⟨#[97]⟩, .int .u8 1, .int .u8 0, .int .i64 0, .int .i64 0, .string ⟨#[]⟩, .string ⟨#[98]⟩, .int .u8 3, .int .u8 0, .int .i64 0, .int .i64 0, .string ⟨#[]⟩] 31)).alloc (.cells #[.int .u8 1, .int .i64 0, .int .i64 0, .string ⟨#[120]⟩] 25) = Z := ⟨_, rfl⟩
      have FZ : Hid (SlC Z (some ⟨h, 0, none⟩) 2 [colA, colB] ∧ Boxed Z (h + 1) 1 0 0 ⟨#[120]⟩ ∧ Below wr.heap.size wr Z) := Lib.hid (by
        have h1 := newC wr
        have b1 := Below.allocs wr (.cells #[.string ⟨#[97]⟩, .int .u8 1, .int .u8 0, .int .i64 0, .int .i64 0, .string ⟨#[]⟩, .string ⟨#[98]⟩, .int .u8 3, .int .u8 0, .int .i64 0, .int .i64 0, .string ⟨#[]⟩] 31)
        have s1 : (wr.alloc (.cells #[.string ⟨#[97]⟩, .int .u8 1, .int .u8 0, .int .i64 0, .int .i64 0, .string ⟨#[]⟩, .string ⟨#[98]⟩, .int .u8 3, .int .u8 0, .int .i64 0, .int .i64 0, .string ⟨#[]⟩] 31)).heap.size = wr.heap.size + 1 := by simp
        generalize wr.alloc (.cells #[.string ⟨#[97]⟩, .int .u8 1, .int .u8 0, .int .i64 0, .int .i64 0, .string ⟨#[]⟩, .string ⟨#[98]⟩, .int .u8 3, .int .u8 0, .int .i64 0, .int .i64 0, .string ⟨#[]⟩] 31) = A at *
        have h2 := Boxed.new A 1 0 0 ⟨#[120]⟩ 25
        have b2 := Below.allocs A (.cells #[.int .u8 1, .int .i64 0, .int .i64 0, .string ⟨#[120]⟩] 25)
        rw [hZ] at h2 b2
        rw [s1, hh] at h2
        rw [hh] at h1
        exact ⟨h1.below b2, h2, below_tr b1 b2⟩)
      have HCL : Hid (SlC Z (some ⟨h, 0, none⟩) 2 [colA, colB]) := Lib.hid FZ.out.1
      have HBD : Hid (Boxed Z (h + 1) 1 0 0 ⟨#[120]⟩) := Lib.hid FZ.out.2.1
      have HBZ : Hid (Below w.heap.size w Z) := Lib.hid (below_tr HB50.out FZ.out.2.2)
      have HGZ : Hid (Good Z) := Lib.hid (HG.out.below HBZ.out)
      go_wp2_with fail
      try rw [hZ]
      have hdr := below_drw Z
      try simp only [List.append_eq, List.cons_append, List.nil_append]
      refine RX.wp_region_plan (fun w w' => Below w.heap.size w w') [.it (.agg #[.int .u8 1, .int .i64 1, .int .i64 0, .string ⟨#[]⟩]), .it (.agg #[.int .u8 3, .int .i64 0, .int .i64 0, .string ⟨#[]⟩]), .of (IsR [v1, ve]), .it (.slice (some ⟨h, 0, none⟩) 2 2), .it (.int .i64 0), .it (.bool true), .it (.bool true), .it (.agg #[.int .u8 0, .int .i64 0, .int .i64 0, .string ⟨#[]⟩]), .it (.agg #[.int .u8 0, .int .i64 0, .int .i64 0, .string ⟨#[]⟩]), .of (IsR [Val.zero, Val.zero]), .it (.slice (some ⟨h, 0, none⟩) 2 2), .it (.int .i64 0), .it (.bool true), .it (.bool true), .it (.bool true), .it (.agg #[.int .u8 1, .int .i64 1, .int .i64 0, .string ⟨#[]⟩]), .of (IsR [v1]), .it (.slice (some ⟨h, 0, none⟩) 2 2), .it (.int .i64 4), .it (.bool true), .it (.bool true), .it (.bool true), .it (.agg #[.int .u8 3, .int .i64 0, .int .i64 0, .string ⟨#[97]⟩]), .it (.agg #[.int .u8 1, .int .i64 1, .int .i64 0, .string ⟨#[]⟩]), .it (.agg #[.int .u8 0, .int .i64 0, .int .i64 0, .string ⟨#[]⟩]), .of (IsR [va, v1, Val.zero]), .it (.slice (some ⟨h, 0, none⟩) 2 2), .it (.int .i64 4), .it (.bool true), .it (.bool true), .it (.bool true), .it (.agg #[.int .u8 3, .int .i64 0, .int .i64 0, .string ⟨#[]⟩]), .it (.agg #[.int .u8 1, .int .i64 1, .int .i64 0, .string ⟨#[]⟩]), .of (IsR [ve, v1]), .it (.slice (some ⟨h, 0, none⟩) 2 2), .it (.int .i64 60), .it (.bool true), .it (.bool true), .it (.bool true), .it (.agg #[.int .u8 1, .int .i64 0, .int .i64 0, .string ⟨#[120]⟩]), .it (.agg #[.int .u8 3, .int .i64 0, .int .i64 0, .string ⟨#[]⟩]), .of (IsR [vb, ve]), .it (.slice (some ⟨h, 0, none⟩) 2 2), .it (.int .i64 60), .it (.bool true), .it (.bool true), .it (.bool true), .it (.int .i64 0), .it (.bool true), .it (.bool true), .it (.bool true), .it (.agg #[.int .u8 1, .int .i64 1, .int .i64 0, .string ⟨#[]⟩]), .it (.agg #[.int .u8 1, .int .i64 0, .int .i64 0, .string ⟨#[120]⟩]), .of (IsR [v1, vb]), .it (.string ⟨#[]⟩), .it (.bool true), .it (.bool true), .it (.bool true)] (by kernel_rfl) (by kernel_rfl) (fun _ => Below.refl _ _) (fun _ _ _ => below_tr) ?_
      refine RX.seqP_call (14) #[.int .i64 1] (.agg #[.int .u8 1, .int .i64 1, .int .i64 0, .string ⟨#[]⟩]) (by first | rfl | simp) (fun w' hw' hctx => ?_) (fun w' hw' hctx => number_is 1 w') ?_
      · go_simp
      simp only [Act.put, List.setIfInBounds_toArray, List.set_cons_zero, List.set_cons_succ]
      refine RX.seqP_call (13) #[.string ⟨#[]⟩] (.agg #[.int .u8 3, .int .i64 0, .int .i64 0, .string ⟨#[]⟩]) (by first | rfl | simp) (fun w' hw' hctx => ?_) (fun w' hw' hctx => ltext_is ⟨#[]⟩ w') ?_
      · go_simp
      simp only [Act.put, List.setIfInBounds_toArray, List.set_cons_zero, List.set_cons_succ]
      refine RX.seqP_make (IsR [v1, ve]) (fun w w' v hb h => h.below hb) (by first | rfl | simp) (fun w' hw' hctx => ?_) (fun u2 => ?_)
      · exact ⟨.slice (some ⟨w'.heap.size, 0, none⟩) 2 2, w'.alloc (.cells #[.int .u8 1, .int .i64 1, .int .i64 0, .string ⟨#[]⟩, .int .u8 3, .int .i64 0, .int .i64 0, .string ⟨#[]⟩] 25), by go_simp, Below.allocs _ _, ⟨_, _, rfl, newL w' [v1, ve] (by intro x hx; simp at hx; rcases hx with rfl | rfl <;> first | exact wf_v1 | exact wf_ve ) (by simp)⟩⟩
      simp only [Act.put, List.setIfInBounds_toArray, List.set_cons_zero, List.set_cons_succ]
      refine RX.seqP_value (fun _ => Below.refl _ _) _ (by first | rfl | simp) (fun w' hw' hctx => by (go_simp); (try first | with_reducible rfl | simp)) ?_
      simp only [Act.put, List.setIfInBounds_toArray, List.set_cons_zero, List.set_cons_succ]
      refine RX.seqP_call (16) #[u2, .slice (some ⟨h, 0, none⟩) 2 2] (.int .i64 0) (by first | rfl | simp) (fun w' hw' hctx => ?_) (fun w' hw' hctx => (by obtain ⟨a, c, e, hs⟩ := hctx.1; rw [e]; exact fitr_is a _ c 2 2 2 [v1, ve] [colA, colB] 0 rfl rfl (by decide +kernel) w' hs (HCL.out.below (below_tr hdr hw')))) ?_
      · go_simp
      simp only [Act.put, List.setIfInBounds_toArray, List.set_cons_zero, List.set_cons_succ]
      refine RX.seqP_value (fun _ => Below.refl _ _) _ (by first | rfl | simp) (fun w' hw' hctx => by (go_simp); (try first | with_reducible rfl | simp)) ?_
      simp only [Act.put, List.setIfInBounds_toArray, List.set_cons_zero, List.set_cons_succ]
      refine RX.seqP_value (fun _ => Below.refl _ _) _ (by first | rfl | simp) (fun w' hw' hctx => by (go_simp); (try first | with_reducible rfl | simp)) ?_
      simp only [Act.put, List.setIfInBounds_toArray, List.set_cons_zero, List.set_cons_succ]
      refine RX.seqP_value (fun _ => Below.refl _ _) _ (by first | rfl | simp) (fun w' hw' hctx => by (go_simp); (try first | with_reducible rfl | simp)) ?_
      simp only [Act.put, List.setIfInBounds_toArray, List.set_cons_zero, List.set_cons_succ]
      refine RX.seqP_value (fun _ => Below.refl _ _) _ (by first | rfl | simp) (fun w' hw' hctx => by (go_simp); (try first | with_reducible rfl | simp)) ?_
      simp only [Act.put, List.setIfInBounds_toArray, List.set_cons_zero, List.set_cons_succ]
      refine RX.seqP_make (IsR [Val.zero, Val.zero]) (fun w w' v hb h => h.below hb) (by first | rfl | simp) (fun w' hw' hctx => ?_) (fun u9 => ?_)
      · exact ⟨.slice (some ⟨w'.heap.size, 0, none⟩) 2 2, w'.alloc (.cells #[.int .u8 0, .int .i64 0, .int .i64 0, .string ⟨#[]⟩, .int .u8 0, .int .i64 0, .int .i64 0, .string ⟨#[]⟩] 25), by go_simp, Below.allocs _ _, ⟨_, _, rfl, newL w' [Val.zero, Val.zero] (by intro x hx; simp at hx; rcases hx with rfl | rfl <;> first | exact wf_v0 | exact wf_v0 ) (by simp)⟩⟩
      simp only [Act.put, List.setIfInBounds_toArray, List.set_cons_zero, List.set_cons_succ]
      refine RX.seqP_value (fun _ => Below.refl _ _) _ (by first | rfl | simp) (fun w' hw' hctx => by (go_simp); (try first | with_reducible rfl | simp)) ?_
      simp only [Act.put, List.setIfInBounds_toArray, List.set_cons_zero, List.set_cons_succ]
      refine RX.seqP_call (16) #[u9, .slice (some ⟨h, 0, none⟩) 2 2] (.int .i64 0) (by first | rfl | simp) (fun w' hw' hctx => ?_) (fun w' hw' hctx => (by obtain ⟨a, c, e, hs⟩ := hctx.1; rw [e]; exact fitr_is a _ c 2 2 2 [Val.zero, Val.zero] [colA, colB] 0 rfl rfl (by decide +kernel) w' hs (HCL.out.below (below_tr hdr hw')))) ?_
      · go_simp
      simp only [Act.put, List.setIfInBounds_toArray, List.set_cons_zero, List.set_cons_succ]
      refine RX.seqP_value (fun _ => Below.refl _ _) _ (by first | rfl | simp) (fun w' hw' hctx => by (go_simp); (try first | with_reducible rfl | simp)) ?_
      simp only [Act.put, List.setIfInBounds_toArray, List.set_cons_zero, List.set_cons_succ]
      refine RX.seqP_value (fun _ => Below.refl _ _) _ (by first | rfl | simp) (fun w' hw' hctx => by (go_simp); (try first | with_reducible rfl | simp)) ?_
      simp only [Act.put, List.setIfInBounds_toArray, List.set_cons_zero, List.set_cons_succ]
      refine RX.seqP_value (fun _ => Below.refl _ _) _ (by first | rfl | simp) (fun w' hw' hctx => by (go_simp); (try first | with_reducible rfl | simp)) ?_
      simp only [Act.put, List.setIfInBounds_toArray, List.set_cons_zero, List.set_cons_succ]
      refine RX.seqP_call (14) #[.int .i64 1] (.agg #[.int .u8 1, .int .i64 1, .int .i64 0, .string ⟨#[]⟩]) (by first | rfl | simp) (fun w' hw' hctx => ?_) (fun w' hw' hctx => number_is 1 w') ?_
      · go_simp
      simp only [Act.put, List.setIfInBounds_toArray, List.set_cons_zero, List.set_cons_succ]
      refine RX.seqP_make (IsR [v1]) (fun w w' v hb h => h.below hb) (by first | rfl | simp) (fun w' hw' hctx => ?_) (fun u16 => ?_)
      · exact ⟨.slice (some ⟨w'.heap.size, 0, none⟩) 1 1, w'.alloc (.cells #[.int .u8 1, .int .i64 1, .int .i64 0, .string ⟨#[]⟩] 25), by go_simp, Below.allocs _ _, ⟨_, _, rfl, newL w' [v1] (by intro x hx; simp at hx; rw [hx]; exact wf_v1) (by simp)⟩⟩
      simp only [Act.put, List.setIfInBounds_toArray, List.set_cons_zero, List.set_cons_succ]
      refine RX.seqP_value (fun _ => Below.refl _ _) _ (by first | rfl | simp) (fun w' hw' hctx => by (go_simp); (try first | with_reducible rfl | simp)) ?_
      simp only [Act.put, List.setIfInBounds_toArray, List.set_cons_zero, List.set_cons_succ]
      refine RX.seqP_call (16) #[u16, .slice (some ⟨h, 0, none⟩) 2 2] (.int .i64 4) (by first | rfl | simp) (fun w' hw' hctx => ?_) (fun w' hw' hctx => (by obtain ⟨a, c, e, hs⟩ := hctx.1; rw [e]; exact fitr_is a _ c 2 1 2 [v1] [colA, colB] 4 rfl rfl (by decide +kernel) w' hs (HCL.out.below (below_tr hdr hw')))) ?_
      · go_simp
      simp only [Act.put, List.setIfInBounds_toArray, List.set_cons_zero, List.set_cons_succ]
      refine RX.seqP_value (fun _ => Below.refl _ _) _ (by first | rfl | simp) (fun w' hw' hctx => by (go_simp); (try first | with_reducible rfl | simp)) ?_
      simp only [Act.put, List.setIfInBounds_toArray, List.set_cons_zero, List.set_cons_succ]
      refine RX.seqP_value (fun _ => Below.refl _ _) _ (by first | rfl | simp) (fun w' hw' hctx => by (go_simp); (try first | with_reducible rfl | simp)) ?_
      simp only [Act.put, List.setIfInBounds_toArray, List.set_cons_zero, List.set_cons_succ]
      refine RX.seqP_value (fun _ => Below.refl _ _) _ (by first | rfl | simp) (fun w' hw' hctx => by (go_simp); (try first | with_reducible rfl | simp)) ?_
      simp only [Act.put, List.setIfInBounds_toArray, List.set_cons_zero, List.set_cons_succ]
      refine RX.seqP_call (13) #[.string ⟨#[97]⟩] (.agg #[.int .u8 3, .int .i64 0, .int .i64 0, .string ⟨#[97]⟩]) (by first | rfl | simp) (fun w' hw' hctx => ?_) (fun w' hw' hctx => ltext_is ⟨#[97]⟩ w') ?_
      · go_simp
      simp only [Act.put, List.setIfInBounds_toArray, List.set_cons_zero, List.set_cons_succ]
      refine RX.seqP_call (14) #[.int .i64 1] (.agg #[.int .u8 1, .int .i64 1, .int .i64 0, .string ⟨#[]⟩]) (by first | rfl | simp) (fun w' hw' hctx => ?_) (fun w' hw' hctx => number_is 1 w') ?_
      · go_simp
      simp only [Act.put, List.setIfInBounds_toArray, List.set_cons_zero, List.set_cons_succ]
      refine RX.seqP_value (fun _ => Below.refl _ _) _ (by first | rfl | simp) (fun w' hw' hctx => by (go_simp); (try first | with_reducible rfl | simp)) ?_
      simp only [Act.put, List.setIfInBounds_toArray, List.set_cons_zero, List.set_cons_succ]
      refine RX.seqP_make (IsR [va, v1, Val.zero]) (fun w w' v hb h => h.below hb) (by first | rfl | simp) (fun w' hw' hctx => ?_) (fun u25 => ?_)
      · exact ⟨.slice (some ⟨w'.heap.size, 0, none⟩) 3 3, w'.alloc (.cells #[.int .u8 3, .int .i64 0, .int .i64 0, .string ⟨#[97]⟩, .int .u8 1, .int .i64 1, .int .i64 0, .string ⟨#[]⟩, .int .u8 0, .int .i64 0, .int .i64 0, .string ⟨#[]⟩] 25), by go_simp, Below.allocs _ _, ⟨_, _, rfl, newL w' [va, v1, Val.zero] (by intro x hx; simp at hx; rcases hx with rfl | rfl | rfl <;> first | exact wf_va | exact wf_v1 | exact wf_v0 ) (by simp)⟩⟩
      simp only [Act.put, List.setIfInBounds_toArray, List.set_cons_zero, List.set_cons_succ]
      refine RX.seqP_value (fun _ => Below.refl _ _) _ (by first | rfl | simp) (fun w' hw' hctx => by (go_simp); (try first | with_reducible rfl | simp)) ?_
      simp only [Act.put, List.setIfInBounds_toArray, List.set_cons_zero, List.set_cons_succ]
      refine RX.seqP_call (16) #[u25, .slice (some ⟨h, 0, none⟩) 2 2] (.int .i64 4) (by first | rfl | simp) (fun w' hw' hctx => ?_) (fun w' hw' hctx => (by obtain ⟨a, c, e, hs⟩ := hctx.1; rw [e]; exact fitr_is a _ c 2 3 2 [va, v1, Val.zero] [colA, colB] 4 rfl rfl (by decide +kernel) w' hs (HCL.out.below (below_tr hdr hw')))) ?_
      · go_simp
      simp only [Act.put, List.setIfInBounds_toArray, List.set_cons_zero, List.set_cons_succ]
      refine RX.seqP_value (fun _ => Below.refl _ _) _ (by first | rfl | simp) (fun w' hw' hctx => by (go_simp); (try first | with_reducible rfl | simp)) ?_
      simp only [Act.put, List.setIfInBounds_toArray, List.set_cons_zero, List.set_cons_succ]
      refine RX.seqP_value (fun _ => Below.refl _ _) _ (by first | rfl | simp) (fun w' hw' hctx => by (go_simp); (try first | with_reducible rfl | simp)) ?_
      simp only [Act.put, List.setIfInBounds_toArray, List.set_cons_zero, List.set_cons_succ]
      refine RX.seqP_value (fun _ => Below.refl _ _) _ (by first | rfl | simp) (fun w' hw' hctx => by (go_simp); (try first | with_reducible rfl | simp)) ?_
      simp only [Act.put, List.setIfInBounds_toArray, List.set_cons_zero, List.set_cons_succ]
      refine RX.seqP_call (13) #[.string ⟨#[]⟩] (.agg #[.int .u8 3, .int .i64 0, .int .i64 0, .string ⟨#[]⟩]) (by first | rfl | simp) (fun w' hw' hctx => ?_) (fun w' hw' hctx => ltext_is ⟨#[]⟩ w') ?_
      · go_simp
      simp only [Act.put, List.setIfInBounds_toArray, List.set_cons_zero, List.set_cons_succ]
      refine RX.seqP_call (14) #[.int .i64 1] (.agg #[.int .u8 1, .int .i64 1, .int .i64 0, .string ⟨#[]⟩]) (by first | rfl | simp) (fun w' hw' hctx => ?_) (fun w' hw' hctx => number_is 1 w') ?_
      · go_simp
      simp only [Act.put, List.setIfInBounds_toArray, List.set_cons_zero, List.set_cons_succ]
      refine RX.seqP_make (IsR [ve, v1]) (fun w w' v hb h => h.below hb) (by first | rfl | simp) (fun w' hw' hctx => ?_) (fun u33 => ?_)
      · exact ⟨.slice (some ⟨w'.heap.size, 0, none⟩) 2 2, w'.alloc (.cells #[.int .u8 3, .int .i64 0, .int .i64 0, .string ⟨#[]⟩, .int .u8 1, .int .i64 1, .int .i64 0, .string ⟨#[]⟩] 25), by go_simp, Below.allocs _ _, ⟨_, _, rfl, newL w' [ve, v1] (by intro x hx; simp at hx; rcases hx with rfl | rfl <;> first | exact wf_ve | exact wf_v1 ) (by simp)⟩⟩
      simp only [Act.put, List.setIfInBounds_toArray, List.set_cons_zero, List.set_cons_succ]
      refine RX.seqP_value (fun _ => Below.refl _ _) _ (by first | rfl | simp) (fun w' hw' hctx => by (go_simp); (try first | with_reducible rfl | simp)) ?_
      simp only [Act.put, List.setIfInBounds_toArray, List.set_cons_zero, List.set_cons_succ]
      refine RX.seqP_call (16) #[u33, .slice (some ⟨h, 0, none⟩) 2 2] (.int .i64 60) (by first | rfl | simp) (fun w' hw' hctx => ?_) (fun w' hw' hctx => (by obtain ⟨a, c, e, hs⟩ := hctx.1; rw [e]; exact fitr_is a _ c 2 2 2 [ve, v1] [colA, colB] 60 rfl rfl (by decide +kernel) w' hs (HCL.out.below (below_tr hdr hw')))) ?_
      · go_simp
      simp only [Act.put, List.setIfInBounds_toArray, List.set_cons_zero, List.set_cons_succ]
      refine RX.seqP_value (fun _ => Below.refl _ _) _ (by first | rfl | simp) (fun w' hw' hctx => by (go_simp); (try first | with_reducible rfl | simp)) ?_
      simp only [Act.put, List.setIfInBounds_toArray, List.set_cons_zero, List.set_cons_succ]
      refine RX.seqP_value (fun _ => Below.refl _ _) _ (by first | rfl | simp) (fun w' hw' hctx => by (go_simp); (try first | with_reducible rfl | simp)) ?_
      simp only [Act.put, List.setIfInBounds_toArray, List.set_cons_zero, List.set_cons_succ]
      refine RX.seqP_value (fun _ => Below.refl _ _) _ (by first | rfl | simp) (fun w' hw' hctx => by (go_simp); (try first | with_reducible rfl | simp)) ?_
      simp only [Act.put, List.setIfInBounds_toArray, List.set_cons_zero, List.set_cons_succ]
      refine RX.seqP_value (fun _ => Below.refl _ _) _ (by first | rfl | simp) (fun w' hw' hctx => ?_) ?_
      · obtain ⟨c0, c1, c2, c3, c4⟩ := HBD.out.below (below_tr hdr hw')
        go_simp
        try first | with_reducible rfl | simp
      simp only [Act.put, List.setIfInBounds_toArray, List.set_cons_zero, List.set_cons_succ]
      refine RX.seqP_call (13) #[.string ⟨#[]⟩] (.agg #[.int .u8 3, .int .i64 0, .int .i64 0, .string ⟨#[]⟩]) (by first | rfl | simp) (fun w' hw' hctx => ?_) (fun w' hw' hctx => ltext_is ⟨#[]⟩ w') ?_
      · go_simp
      simp only [Act.put, List.setIfInBounds_toArray, List.set_cons_zero, List.set_cons_succ]
      refine RX.seqP_make (IsR [vb, ve]) (fun w w' v hb h => h.below hb) (by first | rfl | simp) (fun w' hw' hctx => ?_) (fun u41 => ?_)
      · exact ⟨.slice (some ⟨w'.heap.size, 0, none⟩) 2 2, w'.alloc (.cells #[.int .u8 1, .int .i64 0, .int .i64 0, .string ⟨#[120]⟩, .int .u8 3, .int .i64 0, .int .i64 0, .string ⟨#[]⟩] 25), by go_simp, Below.allocs _ _, ⟨_, _, rfl, newL w' [vb, ve] (by intro x hx; simp at hx; rcases hx with rfl | rfl <;> first | exact wf_vb | exact wf_ve ) (by simp)⟩⟩
      simp only [Act.put, List.setIfInBounds_toArray, List.set_cons_zero, List.set_cons_succ]
      refine RX.seqP_value (fun _ => Below.refl _ _) _ (by first | rfl | simp) (fun w' hw' hctx => by (go_simp); (try first | with_reducible rfl | simp)) ?_
      simp only [Act.put, List.setIfInBounds_toArray, List.set_cons_zero, List.set_cons_succ]
      refine RX.seqP_call (16) #[u41, .slice (some ⟨h, 0, none⟩) 2 2] (.int .i64 60) (by first | rfl | simp) (fun w' hw' hctx => ?_) (fun w' hw' hctx => (by obtain ⟨a, c, e, hs⟩ := hctx.1; rw [e]; exact fitr_is a _ c 2 2 2 [vb, ve] [colA, colB] 60 rfl rfl (by decide +kernel) w' hs (HCL.out.below (below_tr hdr hw')))) ?_
      · go_simp
      simp only [Act.put, List.setIfInBounds_toArray, List.set_cons_zero, List.set_cons_succ]
      refine RX.seqP_value (fun _ => Below.refl _ _) _ (by first | rfl | simp) (fun w' hw' hctx => by (go_simp); (try first | with_reducible rfl | simp)) ?_
      simp only [Act.put, List.setIfInBounds_toArray, List.set_cons_zero, List.set_cons_succ]
      refine RX.seqP_value (fun _ => Below.refl _ _) _ (by first | rfl | simp) (fun w' hw' hctx => by (go_simp); (try first | with_reducible rfl | simp)) ?_
      simp only [Act.put, List.setIfInBounds_toArray, List.set_cons_zero, List.set_cons_succ]
      refine RX.seqP_value (fun _ => Below.refl _ _) _ (by first | rfl | simp) (fun w' hw' hctx => by (go_simp); (try first | with_reducible rfl | simp)) ?_
      simp only [Act.put, List.setIfInBounds_toArray, List.set_cons_zero, List.set_cons_succ]
      refine RX.seqP_call (16) #[.slice none 0 0, .slice none 0 0] (.int .i64 0) (by first | rfl | simp) (fun w' hw' hctx => ?_) (fun w' hw' hctx => fitr_is none none 0 0 0 0 [] [] 0 rfl rfl rfl w' (SlL.nil _ _ _ (Nat.zero_le _)) ⟨Nat.le_refl _, Nat.zero_le _, fun h => absurd rfl h⟩) ?_
      · go_simp
      simp only [Act.put, List.setIfInBounds_toArray, List.set_cons_zero, List.set_cons_succ]
      refine RX.seqP_value (fun _ => Below.refl _ _) _ (by first | rfl | simp) (fun w' hw' hctx => by (go_simp); (try first | with_reducible rfl | simp)) ?_
      simp only [Act.put, List.setIfInBounds_toArray, List.set_cons_zero, List.set_cons_succ]
      refine RX.seqP_value (fun _ => Below.refl _ _) _ (by first | rfl | simp) (fun w' hw' hctx => by (go_simp); (try first | with_reducible rfl | simp)) ?_
      simp only [Act.put, List.setIfInBounds_toArray, List.set_cons_zero, List.set_cons_succ]
      refine RX.seqP_value (fun _ => Below.refl _ _) _ (by first | rfl | simp) (fun w' hw' hctx => by (go_simp); (try first | with_reducible rfl | simp)) ?_
      simp only [Act.put, List.setIfInBounds_toArray, List.set_cons_zero, List.set_cons_succ]
      refine RX.seqP_call (14) #[.int .i64 1] (.agg #[.int .u8 1, .int .i64 1, .int .i64 0, .string ⟨#[]⟩]) (by first | rfl | simp) (fun w' hw' hctx => ?_) (fun w' hw' hctx => number_is 1 w') ?_
      · go_simp
      simp only [Act.put, List.setIfInBounds_toArray, List.set_cons_zero, List.set_cons_succ]
      refine RX.seqP_value (fun _ => Below.refl _ _) _ (by first | rfl | simp) (fun w' hw' hctx => ?_) ?_
      · obtain ⟨c0, c1, c2, c3, c4⟩ := HBD.out.below (below_tr hdr hw')
        go_simp
        try first | with_reducible rfl | simp
      simp only [Act.put, List.setIfInBounds_toArray, List.set_cons_zero, List.set_cons_succ]
      refine RX.seqP_make (IsR [v1, vb]) (fun w w' v hb h => h.below hb) (by first | rfl | simp) (fun w' hw' hctx => ?_) (fun u53 => ?_)
      · exact ⟨.slice (some ⟨w'.heap.size, 0, none⟩) 2 2, w'.alloc (.cells #[.int .u8 1, .int .i64 1, .int .i64 0, .string ⟨#[]⟩, .int .u8 1, .int .i64 0, .int .i64 0, .string ⟨#[120]⟩] 25), by go_simp, Below.allocs _ _, ⟨_, _, rfl, newL w' [v1, vb] (by intro x hx; simp at hx; rcases hx with rfl | rfl <;> first | exact wf_v1 | exact wf_vb ) (by simp)⟩⟩
      simp only [Act.put, List.setIfInBounds_toArray, List.set_cons_zero, List.set_cons_succ]
      refine RX.seqP_call (17) #[u53] (.string ⟨#[]⟩) (by first | rfl | simp) (fun w' hw' hctx => ?_) (fun w' hw' hctx => (by obtain ⟨a, c, e, hs⟩ := hctx.1; rw [e]; exact text_is a c 2 [v1, vb] ⟨#[]⟩ rfl (by decide) (by decide +kernel) (by decide +kernel) w' (HGZ.out.below (below_tr hdr hw')).toGoodT hs)) ?_
      · go_simp
      simp only [Act.put, List.setIfInBounds_toArray, List.set_cons_zero, List.set_cons_succ]
      refine RX.seqP_value (fun _ => Below.refl _ _) _ (by first | rfl | simp) (fun w' hw' hctx => by (go_simp); (try first | with_reducible rfl | simp)) ?_
      simp only [Act.put, List.setIfInBounds_toArray, List.set_cons_zero, List.set_cons_succ]
      refine RX.seqP_value (fun _ => Below.refl _ _) _ (by first | rfl | simp) (fun w' hw' hctx => by (go_simp); (try first | with_reducible rfl | simp)) ?_
      simp only [Act.put, List.setIfInBounds_toArray, List.set_cons_zero, List.set_cons_succ]
      refine RX.seqP_value (fun _ => Below.refl _ _) _ (by first | rfl | simp) (fun w' hw' hctx => by (go_simp); (try first | with_reducible rfl | simp)) ?_
      simp only [Act.put, List.setIfInBounds_toArray, List.set_cons_zero]
      refine RX.seqP_nil (fun wz hR hctx _ => ?_)
      have hvz := below_tr hdr hR
      clear hctx hR
      go_wp2_with fail
      go_ret
      exact ⟨rfl, below_tr HBZ.out hvz⟩

theorem names_law (w : World) (hg : Good w) :
    Calls Tryd.prog 3 #[] w fun e w' => e = .returned (.bool true) ∧ Below w.heap.size w w' := names_a w hg

end Go.Proofs.YtoglaibcmfjclaaDoor
