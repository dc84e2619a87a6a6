/-
  With, and the laws' own set: walked (stage 13).
-/
import Derived.Test.YtdncoegdgoacnaaOCode
namespace Go.Proofs.Ytdncoegdgoacnaa
open Go.RowKit
set_option linter.unusedVariables false

theorem with_or (h m : Int) (hh : U16 h) (hm : U8 m) : bits .or .u16 h (IntKind.u16.wrap ((2 : Int) ^ min m.toNat 16)) = withN h m := by
  unfold withN
  split
  · rename_i h16
    have e : min m.toNat 16 = m.toNat := by omega
    have hk : m.toNat < 16 := by have := hm.1; omega
    have h2 := two_lt hk
    rw [e, wrap_two hk, u16_or h _ hh.1 hh.2 (Int.natCast_nonneg _) (Int.ofNat_lt.2 h2), Int.toNat_natCast]
  · rename_i h16
    have e : min m.toNat 16 = 16 := by omega
    have e2 : IntKind.u16.wrap ((2 : Int) ^ 16) = 0 := by decide
    rw [e, e2, u16_or h 0 hh.1 hh.2 (by decide) (by decide)]
    rfl

set_option maxRecDepth 100000 in
set_option maxHeartbeats 4000000 in
theorem with_is (h m : Int) (hm : U8 m) (hh : U16 h) (w : World) (r : Int) (hr : withN h m = r) : Calls Try.prog 14 #[.int .u16 h, .int .u8 m] w fun e w' => e = .returned (.int .u16 r) ∧ Below w.heap.size w w' := by
  have hor := with_or h m hh hm
  rw [hr] at hor
  have hm0 := hm.1
  go_enter Try.func14, Try.ntmps14
  go_wp2_with fail
  go_ret
  exact ⟨rfl, Below.refl _ _⟩

/-- What the laws' set makes of a list of modes. -/
def setN (l : List Int) : Int := l.foldl withN 0
theorem u16_0 : U16 0 := ⟨by decide, by decide⟩
theorem fold_u16 : ∀ (l : List Int) (h : Int), U16 h → (∀ x ∈ l, U8 x) → U16 (l.foldl withN h)
  | [], h, hh, _ => hh
  | x :: l, h, hh, hl => fold_u16 l _ (with_u16 hh (hl x List.mem_cons_self).1) (fun y hy => hl y (List.mem_cons_of_mem _ hy))

set_option maxRecDepth 100000 in
set_option maxHeartbeats 4000000 in
theorem set_is (b c n : Nat) (l : List Int) (hn : l.length = n) (hl : ∀ x ∈ l, U8 x) (hc : n < 1000) (w : World) (hw : ∀ (i : Nat) x, l[i]? = some x → w.cell? ⟨b, i, none⟩ = some (.int .u8 x)) (hb : b < w.heap.size) (r : Int) (hr : setN l = r) :
    Calls Try.prog 11 #[.slice (some ⟨b, 0, none⟩) n c] w fun e w' => e = .returned (.int .u16 r) ∧ Below w.heap.size w w' := by
  have HW := Lib.hid hw
  have HL := Lib.hid hl
  have HN := Lib.hid hn
  have HR := Lib.hid hr
  clear hw hl hn hr
  go_enter Try.func11, Try.ntmps11
  go_wp2_with fail
  go_loopg [3, 4, 5, 6, 7, 8, 9, 10, 11, 12, 13, 14, 15, 16] n (fun gg s3 s4 s5 s6 s7 s8 s9 s10 s11 s12 s13 s14 s15 s16 wr => ∃ i : Nat, s4 = .int .i64 i ∧ s3 = .int .u16 ((l.take i).foldl withN 0) ∧ i ≤ n ∧ n - i ≤ gg ∧ Hid (Below w.heap.size w wr))
  case atStart => exact ⟨0, rfl, rfl, by omega, by omega, Lib.hid (Below.refl _ _)⟩
  case round =>
    obtain ⟨i, rfl, rfl, hi, hgg, BW⟩ := hrel
    by_cases h9 : i < n
    · have hlt : (i : Int) < n := by omega
      obtain ⟨x, hx⟩ : ∃ x, l[i]? = some x := ⟨l[i]'(by rw [HN.out]; exact h9), by simp⟩
      have hcell := HW.out i x hx
      rw [← BW.out.cell hb] at hcell
      have hx8 : U8 x := HL.out x (List.mem_of_getElem? hx)
      have hu : U16 ((l.take i).foldl withN 0) := fold_u16 _ _ u16_0 (fun y hy => HL.out y (List.mem_of_mem_take hy))
      have hnx : (l.take (i + 1)).foldl withN 0 = withN ((l.take i).foldl withN 0) x := by
        rw [List.take_add_one, hx]; simp
      obtain ⟨y, hy⟩ : ∃ y, (l.take i).foldl withN 0 = y := ⟨_, rfl⟩
      rw [hy] at hnx hu ⊢
      have hcon := fun w => with_is y x hx8 hu w _ rfl
      have HX := Lib.hid hnx
      clear hnx hy hx hx8 hu
      have hz : ¬ n ≤ i := by omega
      go_wp2_with fail
      refine (hcon _).mono ?_
      rintro e w2 ⟨rfl, hb2⟩
      have HB2 := Lib.hid (below_tr BW.out hb2)
      clear hb2
      go_wp2_with fail
      go_roundg (n - (i + 1))
      case measure => omega
      case rel => exact ⟨i + 1, by go_num, by rw [HX.out], by omega, Nat.le_refl _, HB2⟩
    · have hlt : ¬ (i : Int) < n := by omega
      have hi9 : i = n := by omega
      subst hi9
      go_wp2_with fail
      go_ret
      refine ⟨?_, BW.out⟩
      have e : l.take i = l := List.take_of_length_le (by rw [HN.out]; omega)
      have := HR.out
      unfold setN at this
      rw [e, this]
      rfl
end Go.Proofs.Ytdncoegdgoacnaa
