/-
  The law RowOrder, walked.
-/
import Derived.Test.YtoglaibcmfjclaaDoorWLaw1
namespace Go.Proofs.YtoglaibcmfjclaaDoor
open Go.RowKit

theorem tri_cases {x y z : Int} (h : Tri x y z) : (x = -1 ∧ ((y = -1 ∧ z = -1) ∨ (y = 0 ∧ z = -1) ∨ (y = 1 ∧ (z = -1 ∨ z = 0 ∨ z = 1)))) ∨ (x = 0 ∧ ((y = -1 ∧ z = -1) ∨ (y = 0 ∧ z = 0) ∨ (y = 1 ∧ z = 1))) ∨ (x = 1 ∧ ((y = 1 ∧ z = 1) ∨ (y = 0 ∧ z = 1) ∨ (y = -1 ∧ (z = -1 ∨ z = 0 ∨ z = 1)))) := by
  unfold Tri at h
  obtain ⟨hx, hy, hz, h1, h2, h3⟩ := h
  rcases hx with rfl | rfl | rfl <;> rcases hy with rfl | rfl | rfl <;> rcases hz with rfl | rfl | rfl <;> simp at h1 h2 h3 ⊢

theorem eq_of_cmp {a b : List Val} {x : Int} (h : cmpL a b = x) : decide (a = b) = decide (x = 0) := by
  rw [← h, decide_eq_decide]
  exact (cmpL_zero a b).symm

set_option maxRecDepth 100000 in
set_option maxHeartbeats 8000000 in
theorem order_m (ax : Option Addr) (cx nx : Nat) (lx : List Val) (ay : Option Addr) (cy ny : Nat) (ly : List Val) (az : Option Addr) (cz nz : Nat) (lz : List Val) (hnx : lx.length = nx) (hny : ly.length = ny) (hnz : lz.length = nz) (w : World) (hg : Good w) (hx : SlL w ax cx lx) (hy : SlL w ay cy ly) (hz : SlL w az cz lz) (hX : cmpL lx ly = -1) (hYZ : (cmpL ly lz = -1 ∧ cmpL lx lz = -1) ∨ (cmpL ly lz = 0 ∧ cmpL lx lz = -1) ∨ (cmpL ly lz = 1 ∧ cmpL lx lz = -1) ∨ (cmpL ly lz = 1 ∧ cmpL lx lz = 0) ∨ (cmpL ly lz = 1 ∧ cmpL lx lz = 1)) :
    Calls Tryd.prog 7 #[.slice ax nx cx, .slice ay ny cy, .slice az nz cz] w fun e w' => e = .returned (.bool true) ∧ Below w.heap.size w w' := by
  have HB0 : Hid (Below w.heap.size w w) := Lib.hid (Below.refl _ _)
  have HG := Lib.hid hg
  have HAx := Lib.hid hx
  have HNx := Lib.hid hnx
  have HAy := Lib.hid hy
  have HNy := Lib.hid hny
  have HAz := Lib.hid hz
  have HNz := Lib.hid hnz
  clear hg hx hnx hy hny hz hnz
  go_enter Tryd.func7, Tryd.ntmps7
  have hcon := fun (W : World) (hB : Below w.heap.size w W) => works_is W (HG.out.below hB)
  go_wp2_with fail
  refine (hcon _ HB0.out).mono ?_
  rintro e w1 ⟨rfl, hb1⟩
  have HB1 : Hid (Below w.heap.size w w1) := Lib.hid (below_tr HB0.out hb1)
  clear hcon hb1
  obtain ⟨zx, hzx⟩ : ∃ z, largeB lx = z := ⟨_, rfl⟩
  have HZx := Lib.hid hzx
  have hcon := fun (W : World) (hB : Below w.heap.size w W) => large_is ax cx nx lx zx HNx.out HZx.out W (HAx.out.below hB)
  clear hzx
  go_wp2_with fail
  refine (hcon _ HB1.out).mono ?_
  rintro e w2 ⟨rfl, hb2⟩
  have HB2 : Hid (Below w.heap.size w w2) := Lib.hid (below_tr HB1.out hb2)
  clear hcon hb2
  cases zx
  case' true =>
    have hcon := fun (W : World) (hB : Below w.heap.size w W) => works_is W (HG.out.below hB)
    go_wp2_with fail
    refine (hcon _ HB2.out).mono ?_
    rintro e w3 ⟨rfl, hb3⟩
    have HB3 : Hid (Below w.heap.size w w3) := Lib.hid (below_tr HB2.out hb3)
    clear hcon hb3
    go_wp2_with fail
    go_ret
    exact ⟨rfl, HB3.out⟩
  obtain ⟨zy, hzy⟩ : ∃ z, largeB ly = z := ⟨_, rfl⟩
  have HZy := Lib.hid hzy
  have hcon := fun (W : World) (hB : Below w.heap.size w W) => large_is ay cy ny ly zy HNy.out HZy.out W (HAy.out.below hB)
  clear hzy
  go_wp2_with fail
  refine (hcon _ HB2.out).mono ?_
  rintro e w3 ⟨rfl, hb3⟩
  have HB3 : Hid (Below w.heap.size w w3) := Lib.hid (below_tr HB2.out hb3)
  clear hcon hb3
  cases zy
  case' true =>
    have hcon := fun (W : World) (hB : Below w.heap.size w W) => works_is W (HG.out.below hB)
    go_wp2_with fail
    refine (hcon _ HB3.out).mono ?_
    rintro e w4 ⟨rfl, hb4⟩
    have HB4 : Hid (Below w.heap.size w w4) := Lib.hid (below_tr HB3.out hb4)
    clear hcon hb4
    go_wp2_with fail
    go_ret
    exact ⟨rfl, HB4.out⟩
  obtain ⟨zz, hzz⟩ : ∃ z, largeB lz = z := ⟨_, rfl⟩
  have HZz := Lib.hid hzz
  have hcon := fun (W : World) (hB : Below w.heap.size w W) => large_is az cz nz lz zz HNz.out HZz.out W (HAz.out.below hB)
  clear hzz
  go_wp2_with fail
  refine (hcon _ HB3.out).mono ?_
  rintro e w4 ⟨rfl, hb4⟩
  have HB4 : Hid (Below w.heap.size w w4) := Lib.hid (below_tr HB3.out hb4)
  clear hcon hb4
  cases zz
  case' true =>
    have hcon := fun (W : World) (hB : Below w.heap.size w W) => works_is W (HG.out.below hB)
    go_wp2_with fail
    refine (hcon _ HB4.out).mono ?_
    rintro e w5 ⟨rfl, hb5⟩
    have HB5 : Hid (Below w.heap.size w w5) := Lib.hid (below_tr HB4.out hb5)
    clear hcon hb5
    go_wp2_with fail
    go_ret
    exact ⟨rfl, HB5.out⟩
  rcases hYZ with ⟨hY, hZ⟩ | ⟨hY, hZ⟩ | ⟨hY, hZ⟩ | ⟨hY, hZ⟩ | ⟨hY, hZ⟩
  · have HX := Lib.hid hX
    have HY := Lib.hid hY
    have HZ := Lib.hid hZ
    clear hX hY hZ
    have hcon := fun (W : World) (hB : Below w.heap.size w W) => comp_is ax ay cx cy nx ny lx ly (-1) HNx.out HNy.out HX.out W (HAx.out.below hB) (HAy.out.below hB)
    go_wp2_with fail
    refine (hcon _ HB4.out).mono ?_
    rintro e w5 ⟨rfl, hb5⟩
    have HB5 : Hid (Below w.heap.size w w5) := Lib.hid (below_tr HB4.out hb5)
    clear hcon hb5
    have hcon := fun (W : World) (hB : Below w.heap.size w W) => comp_is ay az cy cz ny nz ly lz (-1) HNy.out HNz.out HY.out W (HAy.out.below hB) (HAz.out.below hB)
    go_wp2_with fail
    refine (hcon _ HB5.out).mono ?_
    rintro e w6 ⟨rfl, hb6⟩
    have HB6 : Hid (Below w.heap.size w w6) := Lib.hid (below_tr HB5.out hb6)
    clear hcon hb6
    have hcon := fun (W : World) (hB : Below w.heap.size w W) => comp_is ax az cx cz nx nz lx lz (-1) HNx.out HNz.out HZ.out W (HAx.out.below hB) (HAz.out.below hB)
    go_wp2_with fail
    refine (hcon _ HB6.out).mono ?_
    rintro e w7 ⟨rfl, hb7⟩
    have HB7 : Hid (Below w.heap.size w w7) := Lib.hid (below_tr HB6.out hb7)
    clear hcon hb7
    have hcon := fun (W : World) (hB : Below w.heap.size w W) => comp_is ay ax cy cx ny nx ly lx (1) HNy.out HNx.out (by have hq := cmpL_neg lx ly; rw [HX.out] at hq; simpa using hq) W (HAy.out.below hB) (HAx.out.below hB)
    go_wp2_with fail
    refine (hcon _ HB7.out).mono ?_
    rintro e w8 ⟨rfl, hb8⟩
    have HB8 : Hid (Below w.heap.size w w8) := Lib.hid (below_tr HB7.out hb8)
    clear hcon hb8
    have hcon := fun (W : World) (hB : Below w.heap.size w W) => same_is ax ay cx cy nx ny lx ly false HNx.out HNy.out (by rw [eq_of_cmp HX.out]; rfl) W (HAx.out.below hB) (HAy.out.below hB)
    go_wp2_with fail
    refine (hcon _ HB8.out).mono ?_
    rintro e w9 ⟨rfl, hb9⟩
    have HB9 : Hid (Below w.heap.size w w9) := Lib.hid (below_tr HB8.out hb9)
    clear hcon hb9
    have hcon := fun (W : World) (hB : Below w.heap.size w W) => same_is ax ax cx cx nx nx lx lx true HNx.out HNx.out (by simp) W (HAx.out.below hB) (HAx.out.below hB)
    go_wp2_with fail
    refine (hcon _ HB9.out).mono ?_
    rintro e w10 ⟨rfl, hb10⟩
    have HB10 : Hid (Below w.heap.size w w10) := Lib.hid (below_tr HB9.out hb10)
    clear hcon hb10
    go_wp2_with fail
    go_ret
    exact ⟨rfl, HB10.out⟩
  · have HX := Lib.hid hX
    have HY := Lib.hid hY
    have HZ := Lib.hid hZ
    clear hX hY hZ
    have hcon := fun (W : World) (hB : Below w.heap.size w W) => comp_is ax ay cx cy nx ny lx ly (-1) HNx.out HNy.out HX.out W (HAx.out.below hB) (HAy.out.below hB)
    go_wp2_with fail
    refine (hcon _ HB4.out).mono ?_
    rintro e w5 ⟨rfl, hb5⟩
    have HB5 : Hid (Below w.heap.size w w5) := Lib.hid (below_tr HB4.out hb5)
    clear hcon hb5
    have hcon := fun (W : World) (hB : Below w.heap.size w W) => comp_is ay az cy cz ny nz ly lz (0) HNy.out HNz.out HY.out W (HAy.out.below hB) (HAz.out.below hB)
    go_wp2_with fail
    refine (hcon _ HB5.out).mono ?_
    rintro e w6 ⟨rfl, hb6⟩
    have HB6 : Hid (Below w.heap.size w w6) := Lib.hid (below_tr HB5.out hb6)
    clear hcon hb6
    have hcon := fun (W : World) (hB : Below w.heap.size w W) => comp_is ax az cx cz nx nz lx lz (-1) HNx.out HNz.out HZ.out W (HAx.out.below hB) (HAz.out.below hB)
    go_wp2_with fail
    refine (hcon _ HB6.out).mono ?_
    rintro e w7 ⟨rfl, hb7⟩
    have HB7 : Hid (Below w.heap.size w w7) := Lib.hid (below_tr HB6.out hb7)
    clear hcon hb7
    have hcon := fun (W : World) (hB : Below w.heap.size w W) => comp_is ay ax cy cx ny nx ly lx (1) HNy.out HNx.out (by have hq := cmpL_neg lx ly; rw [HX.out] at hq; simpa using hq) W (HAy.out.below hB) (HAx.out.below hB)
    go_wp2_with fail
    refine (hcon _ HB7.out).mono ?_
    rintro e w8 ⟨rfl, hb8⟩
    have HB8 : Hid (Below w.heap.size w w8) := Lib.hid (below_tr HB7.out hb8)
    clear hcon hb8
    have hcon := fun (W : World) (hB : Below w.heap.size w W) => same_is ax ay cx cy nx ny lx ly false HNx.out HNy.out (by rw [eq_of_cmp HX.out]; rfl) W (HAx.out.below hB) (HAy.out.below hB)
    go_wp2_with fail
    refine (hcon _ HB8.out).mono ?_
    rintro e w9 ⟨rfl, hb9⟩
    have HB9 : Hid (Below w.heap.size w w9) := Lib.hid (below_tr HB8.out hb9)
    clear hcon hb9
    have hcon := fun (W : World) (hB : Below w.heap.size w W) => same_is ax ax cx cx nx nx lx lx true HNx.out HNx.out (by simp) W (HAx.out.below hB) (HAx.out.below hB)
    go_wp2_with fail
    refine (hcon _ HB9.out).mono ?_
    rintro e w10 ⟨rfl, hb10⟩
    have HB10 : Hid (Below w.heap.size w w10) := Lib.hid (below_tr HB9.out hb10)
    clear hcon hb10
    go_wp2_with fail
    go_ret
    exact ⟨rfl, HB10.out⟩
  · have HX := Lib.hid hX
    have HY := Lib.hid hY
    have HZ := Lib.hid hZ
    clear hX hY hZ
    have hcon := fun (W : World) (hB : Below w.heap.size w W) => comp_is ax ay cx cy nx ny lx ly (-1) HNx.out HNy.out HX.out W (HAx.out.below hB) (HAy.out.below hB)
    go_wp2_with fail
    refine (hcon _ HB4.out).mono ?_
    rintro e w5 ⟨rfl, hb5⟩
    have HB5 : Hid (Below w.heap.size w w5) := Lib.hid (below_tr HB4.out hb5)
    clear hcon hb5
    have hcon := fun (W : World) (hB : Below w.heap.size w W) => comp_is ay az cy cz ny nz ly lz (1) HNy.out HNz.out HY.out W (HAy.out.below hB) (HAz.out.below hB)
    go_wp2_with fail
    refine (hcon _ HB5.out).mono ?_
    rintro e w6 ⟨rfl, hb6⟩
    have HB6 : Hid (Below w.heap.size w w6) := Lib.hid (below_tr HB5.out hb6)
    clear hcon hb6
    have hcon := fun (W : World) (hB : Below w.heap.size w W) => comp_is ax az cx cz nx nz lx lz (-1) HNx.out HNz.out HZ.out W (HAx.out.below hB) (HAz.out.below hB)
    go_wp2_with fail
    refine (hcon _ HB6.out).mono ?_
    rintro e w7 ⟨rfl, hb7⟩
    have HB7 : Hid (Below w.heap.size w w7) := Lib.hid (below_tr HB6.out hb7)
    clear hcon hb7
    have hcon := fun (W : World) (hB : Below w.heap.size w W) => comp_is ay ax cy cx ny nx ly lx (1) HNy.out HNx.out (by have hq := cmpL_neg lx ly; rw [HX.out] at hq; simpa using hq) W (HAy.out.below hB) (HAx.out.below hB)
    go_wp2_with fail
    refine (hcon _ HB7.out).mono ?_
    rintro e w8 ⟨rfl, hb8⟩
    have HB8 : Hid (Below w.heap.size w w8) := Lib.hid (below_tr HB7.out hb8)
    clear hcon hb8
    have hcon := fun (W : World) (hB : Below w.heap.size w W) => same_is ax ay cx cy nx ny lx ly false HNx.out HNy.out (by rw [eq_of_cmp HX.out]; rfl) W (HAx.out.below hB) (HAy.out.below hB)
    go_wp2_with fail
    refine (hcon _ HB8.out).mono ?_
    rintro e w9 ⟨rfl, hb9⟩
    have HB9 : Hid (Below w.heap.size w w9) := Lib.hid (below_tr HB8.out hb9)
    clear hcon hb9
    have hcon := fun (W : World) (hB : Below w.heap.size w W) => same_is ax ax cx cx nx nx lx lx true HNx.out HNx.out (by simp) W (HAx.out.below hB) (HAx.out.below hB)
    go_wp2_with fail
    refine (hcon _ HB9.out).mono ?_
    rintro e w10 ⟨rfl, hb10⟩
    have HB10 : Hid (Below w.heap.size w w10) := Lib.hid (below_tr HB9.out hb10)
    clear hcon hb10
    go_wp2_with fail
    go_ret
    exact ⟨rfl, HB10.out⟩
  · have HX := Lib.hid hX
    have HY := Lib.hid hY
    have HZ := Lib.hid hZ
    clear hX hY hZ
    have hcon := fun (W : World) (hB : Below w.heap.size w W) => comp_is ax ay cx cy nx ny lx ly (-1) HNx.out HNy.out HX.out W (HAx.out.below hB) (HAy.out.below hB)
    go_wp2_with fail
    refine (hcon _ HB4.out).mono ?_
    rintro e w5 ⟨rfl, hb5⟩
    have HB5 : Hid (Below w.heap.size w w5) := Lib.hid (below_tr HB4.out hb5)
    clear hcon hb5
    have hcon := fun (W : World) (hB : Below w.heap.size w W) => comp_is ay az cy cz ny nz ly lz (1) HNy.out HNz.out HY.out W (HAy.out.below hB) (HAz.out.below hB)
    go_wp2_with fail
    refine (hcon _ HB5.out).mono ?_
    rintro e w6 ⟨rfl, hb6⟩
    have HB6 : Hid (Below w.heap.size w w6) := Lib.hid (below_tr HB5.out hb6)
    clear hcon hb6
    have hcon := fun (W : World) (hB : Below w.heap.size w W) => comp_is ax az cx cz nx nz lx lz (0) HNx.out HNz.out HZ.out W (HAx.out.below hB) (HAz.out.below hB)
    go_wp2_with fail
    refine (hcon _ HB6.out).mono ?_
    rintro e w7 ⟨rfl, hb7⟩
    have HB7 : Hid (Below w.heap.size w w7) := Lib.hid (below_tr HB6.out hb7)
    clear hcon hb7
    have hcon := fun (W : World) (hB : Below w.heap.size w W) => comp_is ay ax cy cx ny nx ly lx (1) HNy.out HNx.out (by have hq := cmpL_neg lx ly; rw [HX.out] at hq; simpa using hq) W (HAy.out.below hB) (HAx.out.below hB)
    go_wp2_with fail
    refine (hcon _ HB7.out).mono ?_
    rintro e w8 ⟨rfl, hb8⟩
    have HB8 : Hid (Below w.heap.size w w8) := Lib.hid (below_tr HB7.out hb8)
    clear hcon hb8
    have hcon := fun (W : World) (hB : Below w.heap.size w W) => same_is ax ay cx cy nx ny lx ly false HNx.out HNy.out (by rw [eq_of_cmp HX.out]; rfl) W (HAx.out.below hB) (HAy.out.below hB)
    go_wp2_with fail
    refine (hcon _ HB8.out).mono ?_
    rintro e w9 ⟨rfl, hb9⟩
    have HB9 : Hid (Below w.heap.size w w9) := Lib.hid (below_tr HB8.out hb9)
    clear hcon hb9
    have hcon := fun (W : World) (hB : Below w.heap.size w W) => same_is ax ax cx cx nx nx lx lx true HNx.out HNx.out (by simp) W (HAx.out.below hB) (HAx.out.below hB)
    go_wp2_with fail
    refine (hcon _ HB9.out).mono ?_
    rintro e w10 ⟨rfl, hb10⟩
    have HB10 : Hid (Below w.heap.size w w10) := Lib.hid (below_tr HB9.out hb10)
    clear hcon hb10
    go_wp2_with fail
    go_ret
    exact ⟨rfl, HB10.out⟩
  · have HX := Lib.hid hX
    have HY := Lib.hid hY
    have HZ := Lib.hid hZ
    clear hX hY hZ
    have hcon := fun (W : World) (hB : Below w.heap.size w W) => comp_is ax ay cx cy nx ny lx ly (-1) HNx.out HNy.out HX.out W (HAx.out.below hB) (HAy.out.below hB)
    go_wp2_with fail
    refine (hcon _ HB4.out).mono ?_
    rintro e w5 ⟨rfl, hb5⟩
    have HB5 : Hid (Below w.heap.size w w5) := Lib.hid (below_tr HB4.out hb5)
    clear hcon hb5
    have hcon := fun (W : World) (hB : Below w.heap.size w W) => comp_is ay az cy cz ny nz ly lz (1) HNy.out HNz.out HY.out W (HAy.out.below hB) (HAz.out.below hB)
    go_wp2_with fail
    refine (hcon _ HB5.out).mono ?_
    rintro e w6 ⟨rfl, hb6⟩
    have HB6 : Hid (Below w.heap.size w w6) := Lib.hid (below_tr HB5.out hb6)
    clear hcon hb6
    have hcon := fun (W : World) (hB : Below w.heap.size w W) => comp_is ax az cx cz nx nz lx lz (1) HNx.out HNz.out HZ.out W (HAx.out.below hB) (HAz.out.below hB)
    go_wp2_with fail
    refine (hcon _ HB6.out).mono ?_
    rintro e w7 ⟨rfl, hb7⟩
    have HB7 : Hid (Below w.heap.size w w7) := Lib.hid (below_tr HB6.out hb7)
    clear hcon hb7
    have hcon := fun (W : World) (hB : Below w.heap.size w W) => comp_is ay ax cy cx ny nx ly lx (1) HNy.out HNx.out (by have hq := cmpL_neg lx ly; rw [HX.out] at hq; simpa using hq) W (HAy.out.below hB) (HAx.out.below hB)
    go_wp2_with fail
    refine (hcon _ HB7.out).mono ?_
    rintro e w8 ⟨rfl, hb8⟩
    have HB8 : Hid (Below w.heap.size w w8) := Lib.hid (below_tr HB7.out hb8)
    clear hcon hb8
    have hcon := fun (W : World) (hB : Below w.heap.size w W) => same_is ax ay cx cy nx ny lx ly false HNx.out HNy.out (by rw [eq_of_cmp HX.out]; rfl) W (HAx.out.below hB) (HAy.out.below hB)
    go_wp2_with fail
    refine (hcon _ HB8.out).mono ?_
    rintro e w9 ⟨rfl, hb9⟩
    have HB9 : Hid (Below w.heap.size w w9) := Lib.hid (below_tr HB8.out hb9)
    clear hcon hb9
    have hcon := fun (W : World) (hB : Below w.heap.size w W) => same_is ax ax cx cx nx nx lx lx true HNx.out HNx.out (by simp) W (HAx.out.below hB) (HAx.out.below hB)
    go_wp2_with fail
    refine (hcon _ HB9.out).mono ?_
    rintro e w10 ⟨rfl, hb10⟩
    have HB10 : Hid (Below w.heap.size w w10) := Lib.hid (below_tr HB9.out hb10)
    clear hcon hb10
    go_wp2_with fail
    go_ret
    exact ⟨rfl, HB10.out⟩

set_option maxRecDepth 100000 in
set_option maxHeartbeats 8000000 in
theorem order_z (ax : Option Addr) (cx nx : Nat) (lx : List Val) (ay : Option Addr) (cy ny : Nat) (ly : List Val) (az : Option Addr) (cz nz : Nat) (lz : List Val) (hnx : lx.length = nx) (hny : ly.length = ny) (hnz : lz.length = nz) (w : World) (hg : Good w) (hx : SlL w ax cx lx) (hy : SlL w ay cy ly) (hz : SlL w az cz lz) (hX : cmpL lx ly = 0) (hYZ : (cmpL ly lz = -1 ∧ cmpL lx lz = -1) ∨ (cmpL ly lz = 0 ∧ cmpL lx lz = 0) ∨ (cmpL ly lz = 1 ∧ cmpL lx lz = 1)) :
    Calls Tryd.prog 7 #[.slice ax nx cx, .slice ay ny cy, .slice az nz cz] w fun e w' => e = .returned (.bool true) ∧ Below w.heap.size w w' := by
  have HB0 : Hid (Below w.heap.size w w) := Lib.hid (Below.refl _ _)
  have HG := Lib.hid hg
  have HAx := Lib.hid hx
  have HNx := Lib.hid hnx
  have HAy := Lib.hid hy
  have HNy := Lib.hid hny
  have HAz := Lib.hid hz
  have HNz := Lib.hid hnz
  clear hg hx hnx hy hny hz hnz
  go_enter Tryd.func7, Tryd.ntmps7
  have hcon := fun (W : World) (hB : Below w.heap.size w W) => works_is W (HG.out.below hB)
  go_wp2_with fail
  refine (hcon _ HB0.out).mono ?_
  rintro e w1 ⟨rfl, hb1⟩
  have HB1 : Hid (Below w.heap.size w w1) := Lib.hid (below_tr HB0.out hb1)
  clear hcon hb1
  obtain ⟨zx, hzx⟩ : ∃ z, largeB lx = z := ⟨_, rfl⟩
  have HZx := Lib.hid hzx
  have hcon := fun (W : World) (hB : Below w.heap.size w W) => large_is ax cx nx lx zx HNx.out HZx.out W (HAx.out.below hB)
  clear hzx
  go_wp2_with fail
  refine (hcon _ HB1.out).mono ?_
  rintro e w2 ⟨rfl, hb2⟩
  have HB2 : Hid (Below w.heap.size w w2) := Lib.hid (below_tr HB1.out hb2)
  clear hcon hb2
  cases zx
  case' true =>
    have hcon := fun (W : World) (hB : Below w.heap.size w W) => works_is W (HG.out.below hB)
    go_wp2_with fail
    refine (hcon _ HB2.out).mono ?_
    rintro e w3 ⟨rfl, hb3⟩
    have HB3 : Hid (Below w.heap.size w w3) := Lib.hid (below_tr HB2.out hb3)
    clear hcon hb3
    go_wp2_with fail
    go_ret
    exact ⟨rfl, HB3.out⟩
  obtain ⟨zy, hzy⟩ : ∃ z, largeB ly = z := ⟨_, rfl⟩
  have HZy := Lib.hid hzy
  have hcon := fun (W : World) (hB : Below w.heap.size w W) => large_is ay cy ny ly zy HNy.out HZy.out W (HAy.out.below hB)
  clear hzy
  go_wp2_with fail
  refine (hcon _ HB2.out).mono ?_
  rintro e w3 ⟨rfl, hb3⟩
  have HB3 : Hid (Below w.heap.size w w3) := Lib.hid (below_tr HB2.out hb3)
  clear hcon hb3
  cases zy
  case' true =>
    have hcon := fun (W : World) (hB : Below w.heap.size w W) => works_is W (HG.out.below hB)
    go_wp2_with fail
    refine (hcon _ HB3.out).mono ?_
    rintro e w4 ⟨rfl, hb4⟩
    have HB4 : Hid (Below w.heap.size w w4) := Lib.hid (below_tr HB3.out hb4)
    clear hcon hb4
    go_wp2_with fail
    go_ret
    exact ⟨rfl, HB4.out⟩
  obtain ⟨zz, hzz⟩ : ∃ z, largeB lz = z := ⟨_, rfl⟩
  have HZz := Lib.hid hzz
  have hcon := fun (W : World) (hB : Below w.heap.size w W) => large_is az cz nz lz zz HNz.out HZz.out W (HAz.out.below hB)
  clear hzz
  go_wp2_with fail
  refine (hcon _ HB3.out).mono ?_
  rintro e w4 ⟨rfl, hb4⟩
  have HB4 : Hid (Below w.heap.size w w4) := Lib.hid (below_tr HB3.out hb4)
  clear hcon hb4
  cases zz
  case' true =>
    have hcon := fun (W : World) (hB : Below w.heap.size w W) => works_is W (HG.out.below hB)
    go_wp2_with fail
    refine (hcon _ HB4.out).mono ?_
    rintro e w5 ⟨rfl, hb5⟩
    have HB5 : Hid (Below w.heap.size w w5) := Lib.hid (below_tr HB4.out hb5)
    clear hcon hb5
    go_wp2_with fail
    go_ret
    exact ⟨rfl, HB5.out⟩
  rcases hYZ with ⟨hY, hZ⟩ | ⟨hY, hZ⟩ | ⟨hY, hZ⟩
  · have HX := Lib.hid hX
    have HY := Lib.hid hY
    have HZ := Lib.hid hZ
    clear hX hY hZ
    have hcon := fun (W : World) (hB : Below w.heap.size w W) => comp_is ax ay cx cy nx ny lx ly (0) HNx.out HNy.out HX.out W (HAx.out.below hB) (HAy.out.below hB)
    go_wp2_with fail
    refine (hcon _ HB4.out).mono ?_
    rintro e w5 ⟨rfl, hb5⟩
    have HB5 : Hid (Below w.heap.size w w5) := Lib.hid (below_tr HB4.out hb5)
    clear hcon hb5
    have hcon := fun (W : World) (hB : Below w.heap.size w W) => comp_is ay az cy cz ny nz ly lz (-1) HNy.out HNz.out HY.out W (HAy.out.below hB) (HAz.out.below hB)
    go_wp2_with fail
    refine (hcon _ HB5.out).mono ?_
    rintro e w6 ⟨rfl, hb6⟩
    have HB6 : Hid (Below w.heap.size w w6) := Lib.hid (below_tr HB5.out hb6)
    clear hcon hb6
    have hcon := fun (W : World) (hB : Below w.heap.size w W) => comp_is ax az cx cz nx nz lx lz (-1) HNx.out HNz.out HZ.out W (HAx.out.below hB) (HAz.out.below hB)
    go_wp2_with fail
    refine (hcon _ HB6.out).mono ?_
    rintro e w7 ⟨rfl, hb7⟩
    have HB7 : Hid (Below w.heap.size w w7) := Lib.hid (below_tr HB6.out hb7)
    clear hcon hb7
    have hcon := fun (W : World) (hB : Below w.heap.size w W) => comp_is ay ax cy cx ny nx ly lx (0) HNy.out HNx.out (by have hq := cmpL_neg lx ly; rw [HX.out] at hq; simpa using hq) W (HAy.out.below hB) (HAx.out.below hB)
    go_wp2_with fail
    refine (hcon _ HB7.out).mono ?_
    rintro e w8 ⟨rfl, hb8⟩
    have HB8 : Hid (Below w.heap.size w w8) := Lib.hid (below_tr HB7.out hb8)
    clear hcon hb8
    have hcon := fun (W : World) (hB : Below w.heap.size w W) => same_is ax ay cx cy nx ny lx ly true HNx.out HNy.out (by rw [eq_of_cmp HX.out]; rfl) W (HAx.out.below hB) (HAy.out.below hB)
    go_wp2_with fail
    refine (hcon _ HB8.out).mono ?_
    rintro e w9 ⟨rfl, hb9⟩
    have HB9 : Hid (Below w.heap.size w w9) := Lib.hid (below_tr HB8.out hb9)
    clear hcon hb9
    have hcon := fun (W : World) (hB : Below w.heap.size w W) => same_is ax ax cx cx nx nx lx lx true HNx.out HNx.out (by simp) W (HAx.out.below hB) (HAx.out.below hB)
    go_wp2_with fail
    refine (hcon _ HB9.out).mono ?_
    rintro e w10 ⟨rfl, hb10⟩
    have HB10 : Hid (Below w.heap.size w w10) := Lib.hid (below_tr HB9.out hb10)
    clear hcon hb10
    go_wp2_with fail
    go_ret
    exact ⟨rfl, HB10.out⟩
  · have HX := Lib.hid hX
    have HY := Lib.hid hY
    have HZ := Lib.hid hZ
    clear hX hY hZ
    have hcon := fun (W : World) (hB : Below w.heap.size w W) => comp_is ax ay cx cy nx ny lx ly (0) HNx.out HNy.out HX.out W (HAx.out.below hB) (HAy.out.below hB)
    go_wp2_with fail
    refine (hcon _ HB4.out).mono ?_
    rintro e w5 ⟨rfl, hb5⟩
    have HB5 : Hid (Below w.heap.size w w5) := Lib.hid (below_tr HB4.out hb5)
    clear hcon hb5
    have hcon := fun (W : World) (hB : Below w.heap.size w W) => comp_is ay az cy cz ny nz ly lz (0) HNy.out HNz.out HY.out W (HAy.out.below hB) (HAz.out.below hB)
    go_wp2_with fail
    refine (hcon _ HB5.out).mono ?_
    rintro e w6 ⟨rfl, hb6⟩
    have HB6 : Hid (Below w.heap.size w w6) := Lib.hid (below_tr HB5.out hb6)
    clear hcon hb6
    have hcon := fun (W : World) (hB : Below w.heap.size w W) => comp_is ax az cx cz nx nz lx lz (0) HNx.out HNz.out HZ.out W (HAx.out.below hB) (HAz.out.below hB)
    go_wp2_with fail
    refine (hcon _ HB6.out).mono ?_
    rintro e w7 ⟨rfl, hb7⟩
    have HB7 : Hid (Below w.heap.size w w7) := Lib.hid (below_tr HB6.out hb7)
    clear hcon hb7
    have hcon := fun (W : World) (hB : Below w.heap.size w W) => comp_is ay ax cy cx ny nx ly lx (0) HNy.out HNx.out (by have hq := cmpL_neg lx ly; rw [HX.out] at hq; simpa using hq) W (HAy.out.below hB) (HAx.out.below hB)
    go_wp2_with fail
    refine (hcon _ HB7.out).mono ?_
    rintro e w8 ⟨rfl, hb8⟩
    have HB8 : Hid (Below w.heap.size w w8) := Lib.hid (below_tr HB7.out hb8)
    clear hcon hb8
    have hcon := fun (W : World) (hB : Below w.heap.size w W) => same_is ax ay cx cy nx ny lx ly true HNx.out HNy.out (by rw [eq_of_cmp HX.out]; rfl) W (HAx.out.below hB) (HAy.out.below hB)
    go_wp2_with fail
    refine (hcon _ HB8.out).mono ?_
    rintro e w9 ⟨rfl, hb9⟩
    have HB9 : Hid (Below w.heap.size w w9) := Lib.hid (below_tr HB8.out hb9)
    clear hcon hb9
    have hcon := fun (W : World) (hB : Below w.heap.size w W) => same_is ax ax cx cx nx nx lx lx true HNx.out HNx.out (by simp) W (HAx.out.below hB) (HAx.out.below hB)
    go_wp2_with fail
    refine (hcon _ HB9.out).mono ?_
    rintro e w10 ⟨rfl, hb10⟩
    have HB10 : Hid (Below w.heap.size w w10) := Lib.hid (below_tr HB9.out hb10)
    clear hcon hb10
    go_wp2_with fail
    go_ret
    exact ⟨rfl, HB10.out⟩
  · have HX := Lib.hid hX
    have HY := Lib.hid hY
    have HZ := Lib.hid hZ
    clear hX hY hZ
    have hcon := fun (W : World) (hB : Below w.heap.size w W) => comp_is ax ay cx cy nx ny lx ly (0) HNx.out HNy.out HX.out W (HAx.out.below hB) (HAy.out.below hB)
    go_wp2_with fail
    refine (hcon _ HB4.out).mono ?_
    rintro e w5 ⟨rfl, hb5⟩
    have HB5 : Hid (Below w.heap.size w w5) := Lib.hid (below_tr HB4.out hb5)
    clear hcon hb5
    have hcon := fun (W : World) (hB : Below w.heap.size w W) => comp_is ay az cy cz ny nz ly lz (1) HNy.out HNz.out HY.out W (HAy.out.below hB) (HAz.out.below hB)
    go_wp2_with fail
    refine (hcon _ HB5.out).mono ?_
    rintro e w6 ⟨rfl, hb6⟩
    have HB6 : Hid (Below w.heap.size w w6) := Lib.hid (below_tr HB5.out hb6)
    clear hcon hb6
    have hcon := fun (W : World) (hB : Below w.heap.size w W) => comp_is ax az cx cz nx nz lx lz (1) HNx.out HNz.out HZ.out W (HAx.out.below hB) (HAz.out.below hB)
    go_wp2_with fail
    refine (hcon _ HB6.out).mono ?_
    rintro e w7 ⟨rfl, hb7⟩
    have HB7 : Hid (Below w.heap.size w w7) := Lib.hid (below_tr HB6.out hb7)
    clear hcon hb7
    have hcon := fun (W : World) (hB : Below w.heap.size w W) => comp_is ay ax cy cx ny nx ly lx (0) HNy.out HNx.out (by have hq := cmpL_neg lx ly; rw [HX.out] at hq; simpa using hq) W (HAy.out.below hB) (HAx.out.below hB)
    go_wp2_with fail
    refine (hcon _ HB7.out).mono ?_
    rintro e w8 ⟨rfl, hb8⟩
    have HB8 : Hid (Below w.heap.size w w8) := Lib.hid (below_tr HB7.out hb8)
    clear hcon hb8
    have hcon := fun (W : World) (hB : Below w.heap.size w W) => same_is ax ay cx cy nx ny lx ly true HNx.out HNy.out (by rw [eq_of_cmp HX.out]; rfl) W (HAx.out.below hB) (HAy.out.below hB)
    go_wp2_with fail
    refine (hcon _ HB8.out).mono ?_
    rintro e w9 ⟨rfl, hb9⟩
    have HB9 : Hid (Below w.heap.size w w9) := Lib.hid (below_tr HB8.out hb9)
    clear hcon hb9
    have hcon := fun (W : World) (hB : Below w.heap.size w W) => same_is ax ax cx cx nx nx lx lx true HNx.out HNx.out (by simp) W (HAx.out.below hB) (HAx.out.below hB)
    go_wp2_with fail
    refine (hcon _ HB9.out).mono ?_
    rintro e w10 ⟨rfl, hb10⟩
    have HB10 : Hid (Below w.heap.size w w10) := Lib.hid (below_tr HB9.out hb10)
    clear hcon hb10
    go_wp2_with fail
    go_ret
    exact ⟨rfl, HB10.out⟩

set_option maxRecDepth 100000 in
set_option maxHeartbeats 8000000 in
theorem order_p (ax : Option Addr) (cx nx : Nat) (lx : List Val) (ay : Option Addr) (cy ny : Nat) (ly : List Val) (az : Option Addr) (cz nz : Nat) (lz : List Val) (hnx : lx.length = nx) (hny : ly.length = ny) (hnz : lz.length = nz) (w : World) (hg : Good w) (hx : SlL w ax cx lx) (hy : SlL w ay cy ly) (hz : SlL w az cz lz) (hX : cmpL lx ly = 1) (hYZ : (cmpL ly lz = 1 ∧ cmpL lx lz = 1) ∨ (cmpL ly lz = 0 ∧ cmpL lx lz = 1) ∨ (cmpL ly lz = -1 ∧ cmpL lx lz = -1) ∨ (cmpL ly lz = -1 ∧ cmpL lx lz = 0) ∨ (cmpL ly lz = -1 ∧ cmpL lx lz = 1)) :
    Calls Tryd.prog 7 #[.slice ax nx cx, .slice ay ny cy, .slice az nz cz] w fun e w' => e = .returned (.bool true) ∧ Below w.heap.size w w' := by
  have HB0 : Hid (Below w.heap.size w w) := Lib.hid (Below.refl _ _)
  have HG := Lib.hid hg
  have HAx := Lib.hid hx
  have HNx := Lib.hid hnx
  have HAy := Lib.hid hy
  have HNy := Lib.hid hny
  have HAz := Lib.hid hz
  have HNz := Lib.hid hnz
  clear hg hx hnx hy hny hz hnz
  go_enter Tryd.func7, Tryd.ntmps7
  have hcon := fun (W : World) (hB : Below w.heap.size w W) => works_is W (HG.out.below hB)
  go_wp2_with fail
  refine (hcon _ HB0.out).mono ?_
  rintro e w1 ⟨rfl, hb1⟩
  have HB1 : Hid (Below w.heap.size w w1) := Lib.hid (below_tr HB0.out hb1)
  clear hcon hb1
  obtain ⟨zx, hzx⟩ : ∃ z, largeB lx = z := ⟨_, rfl⟩
  have HZx := Lib.hid hzx
  have hcon := fun (W : World) (hB : Below w.heap.size w W) => large_is ax cx nx lx zx HNx.out HZx.out W (HAx.out.below hB)
  clear hzx
  go_wp2_with fail
  refine (hcon _ HB1.out).mono ?_
  rintro e w2 ⟨rfl, hb2⟩
  have HB2 : Hid (Below w.heap.size w w2) := Lib.hid (below_tr HB1.out hb2)
  clear hcon hb2
  cases zx
  case' true =>
    have hcon := fun (W : World) (hB : Below w.heap.size w W) => works_is W (HG.out.below hB)
    go_wp2_with fail
    refine (hcon _ HB2.out).mono ?_
    rintro e w3 ⟨rfl, hb3⟩
    have HB3 : Hid (Below w.heap.size w w3) := Lib.hid (below_tr HB2.out hb3)
    clear hcon hb3
    go_wp2_with fail
    go_ret
    exact ⟨rfl, HB3.out⟩
  obtain ⟨zy, hzy⟩ : ∃ z, largeB ly = z := ⟨_, rfl⟩
  have HZy := Lib.hid hzy
  have hcon := fun (W : World) (hB : Below w.heap.size w W) => large_is ay cy ny ly zy HNy.out HZy.out W (HAy.out.below hB)
  clear hzy
  go_wp2_with fail
  refine (hcon _ HB2.out).mono ?_
  rintro e w3 ⟨rfl, hb3⟩
  have HB3 : Hid (Below w.heap.size w w3) := Lib.hid (below_tr HB2.out hb3)
  clear hcon hb3
  cases zy
  case' true =>
    have hcon := fun (W : World) (hB : Below w.heap.size w W) => works_is W (HG.out.below hB)
    go_wp2_with fail
    refine (hcon _ HB3.out).mono ?_
    rintro e w4 ⟨rfl, hb4⟩
    have HB4 : Hid (Below w.heap.size w w4) := Lib.hid (below_tr HB3.out hb4)
    clear hcon hb4
    go_wp2_with fail
    go_ret
    exact ⟨rfl, HB4.out⟩
  obtain ⟨zz, hzz⟩ : ∃ z, largeB lz = z := ⟨_, rfl⟩
  have HZz := Lib.hid hzz
  have hcon := fun (W : World) (hB : Below w.heap.size w W) => large_is az cz nz lz zz HNz.out HZz.out W (HAz.out.below hB)
  clear hzz
  go_wp2_with fail
  refine (hcon _ HB3.out).mono ?_
  rintro e w4 ⟨rfl, hb4⟩
  have HB4 : Hid (Below w.heap.size w w4) := Lib.hid (below_tr HB3.out hb4)
  clear hcon hb4
  cases zz
  case' true =>
    have hcon := fun (W : World) (hB : Below w.heap.size w W) => works_is W (HG.out.below hB)
    go_wp2_with fail
    refine (hcon _ HB4.out).mono ?_
    rintro e w5 ⟨rfl, hb5⟩
    have HB5 : Hid (Below w.heap.size w w5) := Lib.hid (below_tr HB4.out hb5)
    clear hcon hb5
    go_wp2_with fail
    go_ret
    exact ⟨rfl, HB5.out⟩
  rcases hYZ with ⟨hY, hZ⟩ | ⟨hY, hZ⟩ | ⟨hY, hZ⟩ | ⟨hY, hZ⟩ | ⟨hY, hZ⟩
  · have HX := Lib.hid hX
    have HY := Lib.hid hY
    have HZ := Lib.hid hZ
    clear hX hY hZ
    have hcon := fun (W : World) (hB : Below w.heap.size w W) => comp_is ax ay cx cy nx ny lx ly (1) HNx.out HNy.out HX.out W (HAx.out.below hB) (HAy.out.below hB)
    go_wp2_with fail
    refine (hcon _ HB4.out).mono ?_
    rintro e w5 ⟨rfl, hb5⟩
    have HB5 : Hid (Below w.heap.size w w5) := Lib.hid (below_tr HB4.out hb5)
    clear hcon hb5
    have hcon := fun (W : World) (hB : Below w.heap.size w W) => comp_is ay az cy cz ny nz ly lz (1) HNy.out HNz.out HY.out W (HAy.out.below hB) (HAz.out.below hB)
    go_wp2_with fail
    refine (hcon _ HB5.out).mono ?_
    rintro e w6 ⟨rfl, hb6⟩
    have HB6 : Hid (Below w.heap.size w w6) := Lib.hid (below_tr HB5.out hb6)
    clear hcon hb6
    have hcon := fun (W : World) (hB : Below w.heap.size w W) => comp_is ax az cx cz nx nz lx lz (1) HNx.out HNz.out HZ.out W (HAx.out.below hB) (HAz.out.below hB)
    go_wp2_with fail
    refine (hcon _ HB6.out).mono ?_
    rintro e w7 ⟨rfl, hb7⟩
    have HB7 : Hid (Below w.heap.size w w7) := Lib.hid (below_tr HB6.out hb7)
    clear hcon hb7
    have hcon := fun (W : World) (hB : Below w.heap.size w W) => comp_is ay ax cy cx ny nx ly lx (-1) HNy.out HNx.out (by have hq := cmpL_neg lx ly; rw [HX.out] at hq; simpa using hq) W (HAy.out.below hB) (HAx.out.below hB)
    go_wp2_with fail
    refine (hcon _ HB7.out).mono ?_
    rintro e w8 ⟨rfl, hb8⟩
    have HB8 : Hid (Below w.heap.size w w8) := Lib.hid (below_tr HB7.out hb8)
    clear hcon hb8
    have hcon := fun (W : World) (hB : Below w.heap.size w W) => same_is ax ay cx cy nx ny lx ly false HNx.out HNy.out (by rw [eq_of_cmp HX.out]; rfl) W (HAx.out.below hB) (HAy.out.below hB)
    go_wp2_with fail
    refine (hcon _ HB8.out).mono ?_
    rintro e w9 ⟨rfl, hb9⟩
    have HB9 : Hid (Below w.heap.size w w9) := Lib.hid (below_tr HB8.out hb9)
    clear hcon hb9
    have hcon := fun (W : World) (hB : Below w.heap.size w W) => same_is ax ax cx cx nx nx lx lx true HNx.out HNx.out (by simp) W (HAx.out.below hB) (HAx.out.below hB)
    go_wp2_with fail
    refine (hcon _ HB9.out).mono ?_
    rintro e w10 ⟨rfl, hb10⟩
    have HB10 : Hid (Below w.heap.size w w10) := Lib.hid (below_tr HB9.out hb10)
    clear hcon hb10
    go_wp2_with fail
    go_ret
    exact ⟨rfl, HB10.out⟩
  · have HX := Lib.hid hX
    have HY := Lib.hid hY
    have HZ := Lib.hid hZ
    clear hX hY hZ
    have hcon := fun (W : World) (hB : Below w.heap.size w W) => comp_is ax ay cx cy nx ny lx ly (1) HNx.out HNy.out HX.out W (HAx.out.below hB) (HAy.out.below hB)
    go_wp2_with fail
    refine (hcon _ HB4.out).mono ?_
    rintro e w5 ⟨rfl, hb5⟩
    have HB5 : Hid (Below w.heap.size w w5) := Lib.hid (below_tr HB4.out hb5)
    clear hcon hb5
    have hcon := fun (W : World) (hB : Below w.heap.size w W) => comp_is ay az cy cz ny nz ly lz (0) HNy.out HNz.out HY.out W (HAy.out.below hB) (HAz.out.below hB)
    go_wp2_with fail
    refine (hcon _ HB5.out).mono ?_
    rintro e w6 ⟨rfl, hb6⟩
    have HB6 : Hid (Below w.heap.size w w6) := Lib.hid (below_tr HB5.out hb6)
    clear hcon hb6
    have hcon := fun (W : World) (hB : Below w.heap.size w W) => comp_is ax az cx cz nx nz lx lz (1) HNx.out HNz.out HZ.out W (HAx.out.below hB) (HAz.out.below hB)
    go_wp2_with fail
    refine (hcon _ HB6.out).mono ?_
    rintro e w7 ⟨rfl, hb7⟩
    have HB7 : Hid (Below w.heap.size w w7) := Lib.hid (below_tr HB6.out hb7)
    clear hcon hb7
    have hcon := fun (W : World) (hB : Below w.heap.size w W) => comp_is ay ax cy cx ny nx ly lx (-1) HNy.out HNx.out (by have hq := cmpL_neg lx ly; rw [HX.out] at hq; simpa using hq) W (HAy.out.below hB) (HAx.out.below hB)
    go_wp2_with fail
    refine (hcon _ HB7.out).mono ?_
    rintro e w8 ⟨rfl, hb8⟩
    have HB8 : Hid (Below w.heap.size w w8) := Lib.hid (below_tr HB7.out hb8)
    clear hcon hb8
    have hcon := fun (W : World) (hB : Below w.heap.size w W) => same_is ax ay cx cy nx ny lx ly false HNx.out HNy.out (by rw [eq_of_cmp HX.out]; rfl) W (HAx.out.below hB) (HAy.out.below hB)
    go_wp2_with fail
    refine (hcon _ HB8.out).mono ?_
    rintro e w9 ⟨rfl, hb9⟩
    have HB9 : Hid (Below w.heap.size w w9) := Lib.hid (below_tr HB8.out hb9)
    clear hcon hb9
    have hcon := fun (W : World) (hB : Below w.heap.size w W) => same_is ax ax cx cx nx nx lx lx true HNx.out HNx.out (by simp) W (HAx.out.below hB) (HAx.out.below hB)
    go_wp2_with fail
    refine (hcon _ HB9.out).mono ?_
    rintro e w10 ⟨rfl, hb10⟩
    have HB10 : Hid (Below w.heap.size w w10) := Lib.hid (below_tr HB9.out hb10)
    clear hcon hb10
    go_wp2_with fail
    go_ret
    exact ⟨rfl, HB10.out⟩
  · have HX := Lib.hid hX
    have HY := Lib.hid hY
    have HZ := Lib.hid hZ
    clear hX hY hZ
    have hcon := fun (W : World) (hB : Below w.heap.size w W) => comp_is ax ay cx cy nx ny lx ly (1) HNx.out HNy.out HX.out W (HAx.out.below hB) (HAy.out.below hB)
    go_wp2_with fail
    refine (hcon _ HB4.out).mono ?_
    rintro e w5 ⟨rfl, hb5⟩
    have HB5 : Hid (Below w.heap.size w w5) := Lib.hid (below_tr HB4.out hb5)
    clear hcon hb5
    have hcon := fun (W : World) (hB : Below w.heap.size w W) => comp_is ay az cy cz ny nz ly lz (-1) HNy.out HNz.out HY.out W (HAy.out.below hB) (HAz.out.below hB)
    go_wp2_with fail
    refine (hcon _ HB5.out).mono ?_
    rintro e w6 ⟨rfl, hb6⟩
    have HB6 : Hid (Below w.heap.size w w6) := Lib.hid (below_tr HB5.out hb6)
    clear hcon hb6
    have hcon := fun (W : World) (hB : Below w.heap.size w W) => comp_is ax az cx cz nx nz lx lz (-1) HNx.out HNz.out HZ.out W (HAx.out.below hB) (HAz.out.below hB)
    go_wp2_with fail
    refine (hcon _ HB6.out).mono ?_
    rintro e w7 ⟨rfl, hb7⟩
    have HB7 : Hid (Below w.heap.size w w7) := Lib.hid (below_tr HB6.out hb7)
    clear hcon hb7
    have hcon := fun (W : World) (hB : Below w.heap.size w W) => comp_is ay ax cy cx ny nx ly lx (-1) HNy.out HNx.out (by have hq := cmpL_neg lx ly; rw [HX.out] at hq; simpa using hq) W (HAy.out.below hB) (HAx.out.below hB)
    go_wp2_with fail
    refine (hcon _ HB7.out).mono ?_
    rintro e w8 ⟨rfl, hb8⟩
    have HB8 : Hid (Below w.heap.size w w8) := Lib.hid (below_tr HB7.out hb8)
    clear hcon hb8
    have hcon := fun (W : World) (hB : Below w.heap.size w W) => same_is ax ay cx cy nx ny lx ly false HNx.out HNy.out (by rw [eq_of_cmp HX.out]; rfl) W (HAx.out.below hB) (HAy.out.below hB)
    go_wp2_with fail
    refine (hcon _ HB8.out).mono ?_
    rintro e w9 ⟨rfl, hb9⟩
    have HB9 : Hid (Below w.heap.size w w9) := Lib.hid (below_tr HB8.out hb9)
    clear hcon hb9
    have hcon := fun (W : World) (hB : Below w.heap.size w W) => same_is ax ax cx cx nx nx lx lx true HNx.out HNx.out (by simp) W (HAx.out.below hB) (HAx.out.below hB)
    go_wp2_with fail
    refine (hcon _ HB9.out).mono ?_
    rintro e w10 ⟨rfl, hb10⟩
    have HB10 : Hid (Below w.heap.size w w10) := Lib.hid (below_tr HB9.out hb10)
    clear hcon hb10
    go_wp2_with fail
    go_ret
    exact ⟨rfl, HB10.out⟩
  · have HX := Lib.hid hX
    have HY := Lib.hid hY
    have HZ := Lib.hid hZ
    clear hX hY hZ
    have hcon := fun (W : World) (hB : Below w.heap.size w W) => comp_is ax ay cx cy nx ny lx ly (1) HNx.out HNy.out HX.out W (HAx.out.below hB) (HAy.out.below hB)
    go_wp2_with fail
    refine (hcon _ HB4.out).mono ?_
    rintro e w5 ⟨rfl, hb5⟩
    have HB5 : Hid (Below w.heap.size w w5) := Lib.hid (below_tr HB4.out hb5)
    clear hcon hb5
    have hcon := fun (W : World) (hB : Below w.heap.size w W) => comp_is ay az cy cz ny nz ly lz (-1) HNy.out HNz.out HY.out W (HAy.out.below hB) (HAz.out.below hB)
    go_wp2_with fail
    refine (hcon _ HB5.out).mono ?_
    rintro e w6 ⟨rfl, hb6⟩
    have HB6 : Hid (Below w.heap.size w w6) := Lib.hid (below_tr HB5.out hb6)
    clear hcon hb6
    have hcon := fun (W : World) (hB : Below w.heap.size w W) => comp_is ax az cx cz nx nz lx lz (0) HNx.out HNz.out HZ.out W (HAx.out.below hB) (HAz.out.below hB)
    go_wp2_with fail
    refine (hcon _ HB6.out).mono ?_
    rintro e w7 ⟨rfl, hb7⟩
    have HB7 : Hid (Below w.heap.size w w7) := Lib.hid (below_tr HB6.out hb7)
    clear hcon hb7
    have hcon := fun (W : World) (hB : Below w.heap.size w W) => comp_is ay ax cy cx ny nx ly lx (-1) HNy.out HNx.out (by have hq := cmpL_neg lx ly; rw [HX.out] at hq; simpa using hq) W (HAy.out.below hB) (HAx.out.below hB)
    go_wp2_with fail
    refine (hcon _ HB7.out).mono ?_
    rintro e w8 ⟨rfl, hb8⟩
    have HB8 : Hid (Below w.heap.size w w8) := Lib.hid (below_tr HB7.out hb8)
    clear hcon hb8
    have hcon := fun (W : World) (hB : Below w.heap.size w W) => same_is ax ay cx cy nx ny lx ly false HNx.out HNy.out (by rw [eq_of_cmp HX.out]; rfl) W (HAx.out.below hB) (HAy.out.below hB)
    go_wp2_with fail
    refine (hcon _ HB8.out).mono ?_
    rintro e w9 ⟨rfl, hb9⟩
    have HB9 : Hid (Below w.heap.size w w9) := Lib.hid (below_tr HB8.out hb9)
    clear hcon hb9
    have hcon := fun (W : World) (hB : Below w.heap.size w W) => same_is ax ax cx cx nx nx lx lx true HNx.out HNx.out (by simp) W (HAx.out.below hB) (HAx.out.below hB)
    go_wp2_with fail
    refine (hcon _ HB9.out).mono ?_
    rintro e w10 ⟨rfl, hb10⟩
    have HB10 : Hid (Below w.heap.size w w10) := Lib.hid (below_tr HB9.out hb10)
    clear hcon hb10
    go_wp2_with fail
    go_ret
    exact ⟨rfl, HB10.out⟩
  · have HX := Lib.hid hX
    have HY := Lib.hid hY
    have HZ := Lib.hid hZ
    clear hX hY hZ
    have hcon := fun (W : World) (hB : Below w.heap.size w W) => comp_is ax ay cx cy nx ny lx ly (1) HNx.out HNy.out HX.out W (HAx.out.below hB) (HAy.out.below hB)
    go_wp2_with fail
    refine (hcon _ HB4.out).mono ?_
    rintro e w5 ⟨rfl, hb5⟩
    have HB5 : Hid (Below w.heap.size w w5) := Lib.hid (below_tr HB4.out hb5)
    clear hcon hb5
    have hcon := fun (W : World) (hB : Below w.heap.size w W) => comp_is ay az cy cz ny nz ly lz (-1) HNy.out HNz.out HY.out W (HAy.out.below hB) (HAz.out.below hB)
    go_wp2_with fail
    refine (hcon _ HB5.out).mono ?_
    rintro e w6 ⟨rfl, hb6⟩
    have HB6 : Hid (Below w.heap.size w w6) := Lib.hid (below_tr HB5.out hb6)
    clear hcon hb6
    have hcon := fun (W : World) (hB : Below w.heap.size w W) => comp_is ax az cx cz nx nz lx lz (1) HNx.out HNz.out HZ.out W (HAx.out.below hB) (HAz.out.below hB)
    go_wp2_with fail
    refine (hcon _ HB6.out).mono ?_
    rintro e w7 ⟨rfl, hb7⟩
    have HB7 : Hid (Below w.heap.size w w7) := Lib.hid (below_tr HB6.out hb7)
    clear hcon hb7
    have hcon := fun (W : World) (hB : Below w.heap.size w W) => comp_is ay ax cy cx ny nx ly lx (-1) HNy.out HNx.out (by have hq := cmpL_neg lx ly; rw [HX.out] at hq; simpa using hq) W (HAy.out.below hB) (HAx.out.below hB)
    go_wp2_with fail
    refine (hcon _ HB7.out).mono ?_
    rintro e w8 ⟨rfl, hb8⟩
    have HB8 : Hid (Below w.heap.size w w8) := Lib.hid (below_tr HB7.out hb8)
    clear hcon hb8
    have hcon := fun (W : World) (hB : Below w.heap.size w W) => same_is ax ay cx cy nx ny lx ly false HNx.out HNy.out (by rw [eq_of_cmp HX.out]; rfl) W (HAx.out.below hB) (HAy.out.below hB)
    go_wp2_with fail
    refine (hcon _ HB8.out).mono ?_
    rintro e w9 ⟨rfl, hb9⟩
    have HB9 : Hid (Below w.heap.size w w9) := Lib.hid (below_tr HB8.out hb9)
    clear hcon hb9
    have hcon := fun (W : World) (hB : Below w.heap.size w W) => same_is ax ax cx cx nx nx lx lx true HNx.out HNx.out (by simp) W (HAx.out.below hB) (HAx.out.below hB)
    go_wp2_with fail
    refine (hcon _ HB9.out).mono ?_
    rintro e w10 ⟨rfl, hb10⟩
    have HB10 : Hid (Below w.heap.size w w10) := Lib.hid (below_tr HB9.out hb10)
    clear hcon hb10
    go_wp2_with fail
    go_ret
    exact ⟨rfl, HB10.out⟩

theorem order_law (ax : Option Addr) (cx nx : Nat) (lx : List Val) (ay : Option Addr) (cy ny : Nat) (ly : List Val) (az : Option Addr) (cz nz : Nat) (lz : List Val) (hnx : lx.length = nx) (hny : ly.length = ny) (hnz : lz.length = nz) (w : World) (hg : Good w) (hx : SlL w ax cx lx) (hy : SlL w ay cy ly) (hz : SlL w az cz lz) :
    Calls Tryd.prog 7 #[.slice ax nx cx, .slice ay ny cy, .slice az nz cz] w fun e w' => e = .returned (.bool true) ∧ Below w.heap.size w w' := by
  rcases tri_cases (cmpL_tri lx ly lz) with ⟨hX, h⟩ | ⟨hX, h⟩ | ⟨hX, h⟩
  · exact order_m ax cx nx lx ay cy ny ly az cz nz lz hnx hny hnz w hg hx hy hz hX (by omega)
  · exact order_z ax cx nx lx ay cy ny ly az cz nz lz hnx hny hnz w hg hx hy hz hX (by omega)
  · exact order_p ax cx nx lx ay cy ny ly az cz nz lz hnx hny hnz w hg hx hy hz hX (by omega)

end Go.Proofs.YtoglaibcmfjclaaDoor
