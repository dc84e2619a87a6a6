/-
  give of the document's lock, walked (stage 14).
-/
import Derived.Test.YtjjhmfpdbjflmaaPRgw
namespace Go.Proofs.Ytjjhmfpdbjflmaa
open Go.RowKit
set_option linter.unusedVariables false

set_option maxRecDepth 100000 in
set_option maxHeartbeats 8000000 in
theorem rgive_nil (w : World) (x : Nat) (t : Value) (A : Lk) (y m : Int) (hd0 : A.hd = []) (hm : U8 m) (h15 : m < 16) (H : RkM w x (.slice none 0 0) t A) :
    Calls Try.prog 37 #[.pointer (some ⟨x, 0, none⟩), .int .i64 y, .int .u8 m] w fun e w' => e = .returned (.tuple #[]) ∧ ∃ s', RkM w' x s' t ⟨A.c, giveL A.hd y m, A.wt⟩ ∧ (∀ j, s'.ownBlock = some j → w.heap.size ≤ j) ∧ Touch (fun j => j = x) w w' := by
  obtain ⟨u, hu⟩ : ∃ u, withN 0 m = u := ⟨_, rfl⟩
  have HU0 := Lib.hid hu
  have HM := Lib.hid (And.intro hm h15)
  have HRK := Lib.hid H
  have HD0 := Lib.hid hd0
  obtain ⟨d0, d1, d2, dl⟩ := H.cells
  have hb1 := Below.allocs w (.cells #[] 71)
  have h0 := lit_rowO true w
  have r1 := row_app0 h0
  have R1 : Hid (∀ ty, (Builtin.append_ #[59, 59] ty #[.slice (some ⟨w.heap.size, 0, none⟩) 0 0, .slice none 0 0]).run Try.prog (w.alloc (.cells #[] 71)) = .ok (.slice (some ⟨w.heap.size, 0, none⟩) 0 0) (w.alloc (.cells #[] 71))) := Lib.hid r1
  obtain ⟨W2, hW2⟩ : ∃ W2, w.alloc (.cells #[] 71) = W2 := ⟨_, rfl⟩
  obtain ⟨g, hg⟩ : ∃ g, w.heap.size = g := ⟨_, rfl⟩
  rw [hW2, hg] at h0
  have HL0 := Lib.hid h0
  have HBW : Hid (Below w.heap.size w W2) := Lib.hid (by rw [← hW2]; exact hb1)
  have HGE := Lib.hid hg
  have HW2 := Lib.hid hW2
  have hcon := rbit_is m hm h15 W2 u hu
  clear H hu hm h15 hd0 h0 hb1 r1 hW2 hg
  go_enter Try.func37, Try.ntmps37
  go_wp2_with fail
  go_loopg [6] 0 (fun gg s6 wr => s6 = .int .i64 0 ∧ w = wr)
  case atStart => exact ⟨rfl, rfl⟩
  case round =>
    obtain ⟨rfl, rfl⟩ := hrel
    go_wp2_with fail
    go_loopg [7] 0 (fun gg s7 wr => s7 = .int .i64 0 ∧ w = wr)
    case atStart => exact ⟨rfl, rfl⟩
    case round =>
      obtain ⟨rfl, rfl⟩ := hrel
      go_upto_region 9 with (first | (at_builtin; refine append_stepW rfl _ _ 59 rfl _ _ _ _ rfl rfl (R1.out _) ?_) | fail)
      rw [HW2.out]
      try rw [HGE.out]
      clear R1 HW2
      go_wp2_with fail
      refine (show Calls Try.prog _ _ _ _ from hcon).mono ?_
      rintro e W3 ⟨rfl, hb3⟩
      obtain ⟨a2, c2, W4, r2, q2, t2, o2⟩ := rowO_push (HL0.out.below hb3) (y, u) y u 0 (by simp [eO]) (by simp)
      simp only [List.length_nil, Nat.zero_add, List.nil_append] at r2 q2 o2
      have hs3 := (below_tr HBW.out hb3).size
      have hb4 : Below w.heap.size w W4 := (below_tr HBW.out hb3).trans (t2.below (fun j hj => by have e : g = j := Option.some.inj hj; have := HGE.out; omega) hs3)
      have ho2 : ∀ j, Value.ownBlock (.slice a2 1 c2) = some j → w.heap.size ≤ j := fun j hj => by
        rcases o2 j hj with e | e
        · have e : g = j := Option.some.inj e
          have := HGE.out; omega
        · omega
      have R2 := Lib.hid r2
      have R3 := Lib.hid (row_app0 q2)
      have HK4 := HRK.out.below hb4
      obtain ⟨f0, f1, f2, fl⟩ := HK4.cells
      have hz := HK4.lit.fz 1
      have hts := Touch.setCell W4 (F := fun j => j = x) rfl 1 (.slice a2 1 c2)
      have hst := hts.stay (G := fun j => j ≠ x) (fun j hj e => hj e)
      have HE : Hid (RkM (W4.setCell ⟨x, 1, none⟩ (.slice a2 1 c2)) x (.slice a2 1 c2) t ⟨A.c, giveL A.hd y m, A.wt⟩ ∧ (∀ j, Value.ownBlock (.slice a2 1 c2) = some j → w.heap.size ≤ j) ∧ Touch (fun j => j = x) w (W4.setCell ⟨x, 1, none⟩ (.slice a2 1 c2))) := Lib.hid ⟨⟨HK4.lit.set 1 _, by
          show RowO true _ _ (giveL A.hd y m)
          rw [HD0.out]
          show RowO true _ _ [(y, withN 0 m)]
          rw [HU0.out]
          exact RowO.stay q2 hst (fun j hj => by have := ho2 j hj; have := HRK.out.lit.lt; omega), HK4.wt.stay hst (fun j hj => HK4.ownW j hj), fun j hj => ⟨by have := ho2 j hj; have := HRK.out.lit.lt; omega, fun e => by have := ho2 j hj; have := HRK.out.wt.lt j e; omega⟩, HRK.out.ownW⟩, ho2, (Touch.of_below hb4).trans hts (fun j _ hj => hj)⟩
      clear hcon hb3 r2 q2 t2 o2 hs3 hb4 ho2 HK4 hts hst
      go_upto_region 10 with (first | (at_builtin; refine append_stepW rfl _ _ 59 rfl _ _ _ _ rfl rfl (R2.out _) ?_) | fail)
      go_wp2_with (first | (at_builtin; refine append_stepW rfl _ _ 59 rfl _ _ _ _ rfl rfl (R3.out _) ?_) | fail)
      go_end0
      exact ⟨rfl, _, HE.out⟩

theorem rgive_is (w : World) (x : Nat) (s t : Value) (A : Lk) (y m : Int) (hok : Ok0 A) (hm : U8 m) (h15 : m < 16) (hlen : A.hd.length ≤ 100000) (H : RkM w x s t A) :
    Calls Try.prog 37 #[.pointer (some ⟨x, 0, none⟩), .int .i64 y, .int .u8 m] w fun e w' => e = .returned (.tuple #[]) ∧ ∃ s', RkM w' x s' t ⟨A.c, giveL A.hd y m, A.wt⟩ ∧ (∀ j, s'.ownBlock = some j → s.ownBlock = some j ∨ w.heap.size ≤ j) ∧ Touch (fun j => j = x ∨ s.ownBlock = some j) w w' := by
  obtain ⟨a, c, e, -, -⟩ := H.hd.form
  rcases Nat.eq_zero_or_pos A.hd.length with hl | hl
  · have hd0 : A.hd = [] := List.eq_nil_of_length_eq_zero hl
    cases a with
    | none =>
      have hnil : s = .slice none 0 0 := by
        obtain ⟨xs, h1, h2⟩ := RowF.ex H.hd
        rcases h1.2 with ⟨e1, -⟩ | ⟨g, c9, cur, e1, -⟩
        · exact e1
        · rw [e] at e1; cases e1
      subst hnil
      refine (rgive_nil w x t A y m hd0 hm h15 H).mono ?_
      rintro e w' ⟨rfl, s', h1, h2, h3⟩
      exact ⟨rfl, s', h1, fun j hj => .inr (h2 j hj), h3.mono (fun j hj => .inl hj)⟩
    | some ad =>
      obtain ⟨xs, h1, h2⟩ := RowF.ex H.hd
      rcases h1.2 with ⟨e1, -⟩ | ⟨g, c9, cur, e1, -⟩
      · rw [e] at e1; cases e1
      · subst e1
        exact rgive_some w x g _ c9 t A y m hok hm h15 hlen H
  · obtain ⟨p, hp⟩ := get_pl (l := A.hd) (i := 0) hl
    rw [e] at H ⊢
    obtain ⟨b, e1, -⟩ := H.hd.look hp
    subst e1
    exact rgive_some w x b _ c t A y m hok hm h15 hlen H

end Go.Proofs.Ytjjhmfpdbjflmaa
