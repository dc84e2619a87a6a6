/-
  The law RowBehind, walked.
-/
import Derived.Test.YtoglaibcmfjclaaDoorWLaw1
namespace Go.Proofs.YtoglaibcmfjclaaDoor
open Go.RowKit

/-- Which operation it is: looked at ahead of its law (a law that does not fit is unfolded without end). -/
theorem append_dst {ops : Array Oper} {rest : List Oper} {o : Oper} {a : Act} {w : World} {Q : Exit → Act → World → Prop} (k : Tmp) (_ : o.dst = some k) (h : wpList Tryd.prog ops Q (o :: rest) a w) : wpList Tryd.prog ops Q (o :: rest) a w := h

/-- A copy of a row, made by append onto an empty one, and another row appended to that. -/
theorem two_apps {W : World} {a a' : Option Addr} {c c' : Nat} {l m : List Val} (h1 : SlL W a c l) (h2 : SlL W a' c' m) (hl : l.length + m.length ≤ 1000000) :
    ∃ a1 c1 W1 a2 c2 W2, (Builtin.append_ #[35, 35] 35 #[.slice (some ⟨W.heap.size, 0, none⟩) 0 0, .slice a l.length c]).run Tryd.prog (W.alloc (.cells #[] 25)) = .ok (.slice a1 l.length c1) W1 ∧
      (Builtin.append_ #[35, 35] 35 #[.slice a1 l.length c1, .slice a' m.length c']).run Tryd.prog W1 = .ok (.slice a2 (l ++ m).length c2) W2 ∧ SlL W2 a2 c2 (l ++ m) ∧ Below W.heap.size W W2 := by
  have hal := Below.allocs W (.cells #[] 25)
  have ho := World.ownsRow_made (base := W.heap.size) (e := 25) (size := 4) W #[] 0 (Nat.le_refl _) (Nat.zero_le _) (by simp)
  obtain ⟨s1, W1, hr1, ho1, hb1, ⟨a1, c1, rfl⟩, _⟩ := app_run (W := W.alloc (.cells #[] 25)) (base := W.heap.size) (l := []) (m := l) hal.size ho (h1.below hal) (by simp; omega) (fun _ h => absurd h List.not_mem_nil)
  rw [List.nil_append] at hr1 ho1
  have hb1' : Below W.heap.size W W1 := hal.trans hb1
  obtain ⟨s2, W2, hr2, ho2, hb2, ⟨a2, c2, rfl⟩, _⟩ := app_run (W := W1) (base := W.heap.size) (l := l) (m := m) hb1'.size ho1 (h2.below hb1') hl h1.wf
  obtain ⟨a3, c3, e, hsl⟩ := own_sl (fun x hx => (List.mem_append.1 hx).elim (h1.wf x) (h2.wf x)) ho2
  cases e
  exact ⟨a1, c1, W1, a2, c2, W2, hr1, hr2, hsl, hb1'.trans hb2⟩

set_option maxRecDepth 100000 in
set_option maxHeartbeats 8000000 in
theorem behind_law (ax : Option Addr) (cx nx : Nat) (lx : List Val) (ay : Option Addr) (cy ny : Nat) (ly : List Val) (az : Option Addr) (cz nz : Nat) (lz : List Val) (hnx : lx.length = nx) (hny : ly.length = ny) (hnz : lz.length = nz) (w : World) (hg : Good w) (hx : SlL w ax cx lx) (hy : SlL w ay cy ly) (hz : SlL w az cz lz) :
    Calls Tryd.prog 8 #[.slice ax nx cx, .slice ay ny cy, .slice az nz cz] w fun e w' => e = .returned (.bool true) ∧ Below w.heap.size w w' := by
  have HB0 : Hid (Below w.heap.size w w) := Lib.hid (Below.refl _ _)
  have HG := Lib.hid hg
  have HAx := Lib.hid hx
  have HNx := Lib.hid hnx
  have HAy := Lib.hid hy
  have HNy := Lib.hid hny
  have HAz := Lib.hid hz
  have HNz := Lib.hid hnz
  clear hg hx hnx hy hny hz hnz
  go_enter Tryd.func8, Tryd.ntmps8
  have hcon := fun (W : World) (hB : Below w.heap.size w W) => works_is W (HG.out.below hB)
  go_wp2_with fail
  refine (hcon _ HB0.out).mono ?_
  rintro e w1 ⟨rfl, hb1⟩
  have HB1 : Hid (Below w.heap.size w w1) := Lib.hid (below_tr HB0.out hb1)
  clear hcon hb1
  obtain ⟨zx, hzx⟩ : ∃ z, largeB lx = z := ⟨_, rfl⟩
  have HZx := Lib.hid hzx
  have hcon := fun (W : World) (hB : Below w.heap.size w W) => large_is ax cx nx lx zx HNx.out HZx.out W (HAx.out.below hB)
  clear hzx
  go_wp2_with fail
  refine (hcon _ HB1.out).mono ?_
  rintro e w2 ⟨rfl, hb2⟩
  have HB2 : Hid (Below w.heap.size w w2) := Lib.hid (below_tr HB1.out hb2)
  clear hcon hb2
  cases zx
  case' true =>
    have hcon := fun (W : World) (hB : Below w.heap.size w W) => works_is W (HG.out.below hB)
    go_wp2_with fail
    refine (hcon _ HB2.out).mono ?_
    rintro e w3 ⟨rfl, hb3⟩
    have HB3 : Hid (Below w.heap.size w w3) := Lib.hid (below_tr HB2.out hb3)
    clear hcon hb3
    go_wp2_with fail
    go_ret
    exact ⟨rfl, HB3.out⟩
  obtain ⟨zy, hzy⟩ : ∃ z, largeB ly = z := ⟨_, rfl⟩
  have HZy := Lib.hid hzy
  have hcon := fun (W : World) (hB : Below w.heap.size w W) => large_is ay cy ny ly zy HNy.out HZy.out W (HAy.out.below hB)
  clear hzy
  go_wp2_with fail
  refine (hcon _ HB2.out).mono ?_
  rintro e w3 ⟨rfl, hb3⟩
  have HB3 : Hid (Below w.heap.size w w3) := Lib.hid (below_tr HB2.out hb3)
  clear hcon hb3
  cases zy
  case' true =>
    have hcon := fun (W : World) (hB : Below w.heap.size w W) => works_is W (HG.out.below hB)
    go_wp2_with fail
    refine (hcon _ HB3.out).mono ?_
    rintro e w4 ⟨rfl, hb4⟩
    have HB4 : Hid (Below w.heap.size w w4) := Lib.hid (below_tr HB3.out hb4)
    clear hcon hb4
    go_wp2_with fail
    go_ret
    exact ⟨rfl, HB4.out⟩
  obtain ⟨zz, hzz⟩ : ∃ z, largeB lz = z := ⟨_, rfl⟩
  have HZz := Lib.hid hzz
  have hcon := fun (W : World) (hB : Below w.heap.size w W) => large_is az cz nz lz zz HNz.out HZz.out W (HAz.out.below hB)
  clear hzz
  go_wp2_with fail
  refine (hcon _ HB3.out).mono ?_
  rintro e w4 ⟨rfl, hb4⟩
  have HB4 : Hid (Below w.heap.size w w4) := Lib.hid (below_tr HB3.out hb4)
  clear hcon hb4
  cases zz
  case' true =>
    have hcon := fun (W : World) (hB : Below w.heap.size w W) => works_is W (HG.out.below hB)
    go_wp2_with fail
    refine (hcon _ HB4.out).mono ?_
    rintro e w5 ⟨rfl, hb5⟩
    have HB5 : Hid (Below w.heap.size w w5) := Lib.hid (below_tr HB4.out hb5)
    clear hcon hb5
    go_wp2_with fail
    go_ret
    exact ⟨rfl, HB5.out⟩
  have hlen : lx.length < 2000 ∧ ly.length < 2000 ∧ lz.length < 2000 := ⟨small_len HZx.out, small_len HZy.out, small_len HZz.out⟩
  obtain ⟨a1, c1, W1, a2, c2, W2, r1, r2, s2, b2⟩ := two_apps (HAx.out.below HB4.out) (HAy.out.below HB4.out) (by omega)
  have hB2 := below_tr HB4.out b2
  obtain ⟨a3, c3, W3, a4, c4, W4, r3, r4, s4, b4⟩ := two_apps (HAx.out.below hB2) (HAz.out.below hB2) (by omega)
  rw [HNx.out, HNy.out] at r2
  rw [HNx.out] at r1 r3
  rw [HNx.out, HNz.out] at r4
  obtain ⟨U0, hU0⟩ : ∃ U0, w4.alloc (.cells #[] 25) = U0 := ⟨_, rfl⟩
  obtain ⟨V0, hV0⟩ : ∃ V0, W2.alloc (.cells #[] 25) = V0 := ⟨_, rfl⟩
  rw [hU0] at r1
  rw [hV0] at r3
  have R1 := Lib.hid r1
  have R2 := Lib.hid r2
  have R3 := Lib.hid r3
  have R4 := Lib.hid r4
  obtain ⟨m1, hm1⟩ : ∃ m1, (lx ++ ly).length = m1 := ⟨_, rfl⟩
  obtain ⟨m2, hm2⟩ : ∃ m2, (lx ++ lz).length = m2 := ⟨_, rfl⟩
  rw [hm1] at r2 R2
  rw [hm2] at r4 R4
  have HM1 := Lib.hid hm1
  have HM2 := Lib.hid hm2
  have S2 := Lib.hid (s2.below b4)
  have S4 := Lib.hid s4
  have HB5 : Hid (Below w.heap.size w W4) := Lib.hid (below_tr hB2 b4)
  obtain ⟨r, hr⟩ : ∃ r, cmpL ly lz = r := ⟨_, rfl⟩
  obtain ⟨z, hz⟩ : ∃ z, decide (ly = lz) = z := ⟨_, rfl⟩
  have HR := Lib.hid hr
  have HQ := Lib.hid hz
  clear r1 r2 r3 r4 s2 s4 b2 b4 hB2 hm1 hm2 hr hz hlen
  have hcon := comp_is a2 a4 c2 c4 m1 m2 (lx ++ ly) (lx ++ lz) r HM1.out HM2.out (by rw [cmpL_app]; exact HR.out) W4 S2.out S4.out
  go_wp2_with (at_builtin; first | (refine append_dst 26 rfl ?_; refine append_stepW rfl _ _ 35 rfl _ _ _ _ rfl rfl R1.out ?_) | (refine append_dst 28 rfl ?_; refine append_stepW rfl _ _ 35 rfl _ _ _ _ rfl rfl R2.out ?_) | (refine append_dst 31 rfl ?_; refine append_stepW rfl _ _ 35 rfl _ _ _ _ rfl rfl R3.out ?_) | (refine append_dst 33 rfl ?_; refine append_stepW rfl _ _ 35 rfl _ _ _ _ rfl rfl R4.out ?_))
  refine hcon.mono ?_
  rintro e w6 ⟨rfl, hb6⟩
  have HB6 : Hid (Below w.heap.size w w6) := Lib.hid (below_tr HB5.out hb6)
  have S26 := Lib.hid (S2.out.below hb6)
  have S46 := Lib.hid (S4.out.below hb6)
  clear hcon hb6
  have hcon := comp_is ay az cy cz ny nz ly lz r HNy.out HNz.out HR.out w6 (HAy.out.below HB6.out) (HAz.out.below HB6.out)
  go_wp2_with fail
  refine hcon.mono ?_
  rintro e w7 ⟨rfl, hb7⟩
  have HB7 : Hid (Below w.heap.size w w7) := Lib.hid (below_tr HB6.out hb7)
  have S27 := Lib.hid (S26.out.below hb7)
  have S47 := Lib.hid (S46.out.below hb7)
  clear hcon hb7
  have hcon := same_is a2 a4 c2 c4 m1 m2 (lx ++ ly) (lx ++ lz) z HM1.out HM2.out (by rw [← HQ.out, decide_eq_decide]; simp) w7 S27.out S47.out
  go_wp2_with fail
  refine hcon.mono ?_
  rintro e w8 ⟨rfl, hb8⟩
  have HB8 : Hid (Below w.heap.size w w8) := Lib.hid (below_tr HB7.out hb8)
  have S28 := Lib.hid (S27.out.below hb8)
  clear hcon hb8
  have hcon := same_is ay az cy cz ny nz ly lz z HNy.out HNz.out HQ.out w8 (HAy.out.below HB8.out) (HAz.out.below HB8.out)
  go_wp2_with fail
  refine hcon.mono ?_
  rintro e w9 ⟨rfl, hb9⟩
  have HB9 : Hid (Below w.heap.size w w9) := Lib.hid (below_tr HB8.out hb9)
  have S29 := Lib.hid (S28.out.below hb9)
  clear hcon hb9
  by_cases hy0 : ly = []
  · have hny : ny = 0 := by rw [← HNy.out, hy0]; rfl
    have hcon := comp_is ax a2 cx c2 nx m1 lx (lx ++ ly) 0 HNx.out HM1.out (by rw [cmpL_zero, hy0]; simp) w9 (HAx.out.below HB9.out) S29.out
    have hnyz : (ny : Int) = 0 := by omega
    clear hy0 hny
    go_wp2_with fail
    refine hcon.mono ?_
    rintro e w10 ⟨rfl, hb10⟩
    go_wp2_with fail
    go_ret
    exact ⟨rfl, below_tr HB9.out hb10⟩
  · have hny : 0 < ny := by
      rw [← HNy.out]
      exact List.length_pos_iff.2 hy0
    have hcon := comp_is ax a2 cx c2 nx m1 lx (lx ++ ly) (-1) HNx.out HM1.out ((cmpL_pre lx ly).2 hy0) w9 (HAx.out.below HB9.out) S29.out
    have hnyz : 0 < (ny : Int) := by omega
    clear hy0
    go_wp2_with fail
    refine hcon.mono ?_
    rintro e w10 ⟨rfl, hb10⟩
    go_wp2_with fail
    go_ret
    exact ⟨rfl, below_tr HB9.out hb10⟩

end Go.Proofs.YtoglaibcmfjclaaDoor
