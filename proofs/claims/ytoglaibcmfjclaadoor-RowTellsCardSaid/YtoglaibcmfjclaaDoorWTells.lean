/-
  The law RowTells, walked.
-/
import Derived.Test.YtoglaibcmfjclaaDoorWBehind
import Derived.Test.YtoglaibcmfjclaaDoorWApart
import Derived.Test.YtoglaibcmfjclaaDoorWFits
namespace Go.Proofs.YtoglaibcmfjclaaDoor
open Go.RowKit

/-- A copy of a row, made by append onto an empty one. -/
theorem one_app {W : World} {a : Option Addr} {c : Nat} {l : List Val} (h1 : SlL W a c l) (hl : l.length ≤ 1000000) :
    ∃ a1 c1 W1, (Builtin.append_ #[35, 35] 35 #[.slice (some ⟨W.heap.size, 0, none⟩) 0 0, .slice a l.length c]).run Tryd.prog (W.alloc (.cells #[] 25)) = .ok (.slice a1 l.length c1) W1 ∧ SlL W1 a1 c1 l ∧ Below W.heap.size W W1 := by
  have hal := Below.allocs W (.cells #[] 25)
  have ho := World.ownsRow_made (base := W.heap.size) (e := 25) (size := 4) W #[] 0 (Nat.le_refl _) (Nat.zero_le _) (by simp)
  obtain ⟨s1, W1, hr1, ho1, hb1, ⟨a1, c1, rfl⟩, _⟩ := app_run (W := W.alloc (.cells #[] 25)) (base := W.heap.size) (l := []) (m := l) hal.size ho (h1.below hal) (by simp; omega) (fun _ h => absurd h List.not_mem_nil)
  rw [List.nil_append] at hr1 ho1
  obtain ⟨a3, c3, e, hsl⟩ := own_sl h1.wf ho1
  cases e
  exact ⟨a1, c1, W1, hr1, hsl, hal.trans hb1⟩

set_option maxRecDepth 100000 in
set_option maxHeartbeats 8000000 in
theorem tells_1 (ax : Option Addr) (cx nx : Nat) (lx : List Val) (ay : Option Addr) (cy ny : Nat) (ly : List Val) (a' : Option Addr) (c' k : Nat) (cs : List Col) (hnx : lx.length = nx) (hny : ly.length = ny) (hk : cs.length = k) (hzx : largeB lx = true) (w : World) (hg : GoodT w) (hx : SlL w ax cx lx) (hy : SlL w ay cy ly) (hC : SlC w a' c' cs) :
    Calls Tryd.prog 4 #[.slice ax nx cx, .slice ay ny cy, .slice a' k c'] w fun e w' => e = .returned (.bool true) ∧ Below w.heap.size w w' := by
  have HB0 : Hid (Below w.heap.size w w) := Lib.hid (Below.refl _ _)
  have HG := Lib.hid hg
  have HC := Lib.hid hC
  have HK := Lib.hid hk
  have HAx := Lib.hid hx
  have HNx := Lib.hid hnx
  have HAy := Lib.hid hy
  have HNy := Lib.hid hny
  have HZx := Lib.hid hzx
  clear hg hC hk hx hy hnx hny hzx
  go_enter Tryd.func4, Tryd.ntmps4
  have hcon := fun (W : World) (hB : Below w.heap.size w W) => large_is ax cx nx lx true HNx.out HZx.out W (HAx.out.below hB)
  go_wp2_with fail
  refine (hcon _ HB0.out).mono ?_
  rintro e w1 ⟨rfl, hb1⟩
  have HB1 : Hid (Below w.heap.size w w1) := Lib.hid (below_tr HB0.out hb1)
  clear hcon hb1
  go_wp2_with fail
  go_ret
  exact ⟨rfl, HB1.out⟩

set_option maxRecDepth 100000 in
set_option maxHeartbeats 8000000 in
theorem tells_2 (ax : Option Addr) (cx nx : Nat) (lx : List Val) (ay : Option Addr) (cy ny : Nat) (ly : List Val) (a' : Option Addr) (c' k : Nat) (cs : List Col) (hnx : lx.length = nx) (hny : ly.length = ny) (hk : cs.length = k) (hzx : largeB lx = false) (hzy : largeB ly = true) (w : World) (hg : GoodT w) (hx : SlL w ax cx lx) (hy : SlL w ay cy ly) (hC : SlC w a' c' cs) :
    Calls Tryd.prog 4 #[.slice ax nx cx, .slice ay ny cy, .slice a' k c'] w fun e w' => e = .returned (.bool true) ∧ Below w.heap.size w w' := by
  have HB0 : Hid (Below w.heap.size w w) := Lib.hid (Below.refl _ _)
  have HG := Lib.hid hg
  have HC := Lib.hid hC
  have HK := Lib.hid hk
  have HAx := Lib.hid hx
  have HNx := Lib.hid hnx
  have HAy := Lib.hid hy
  have HNy := Lib.hid hny
  have HZx := Lib.hid hzx
  have HZy := Lib.hid hzy
  clear hg hC hk hx hy hnx hny hzx hzy
  go_enter Tryd.func4, Tryd.ntmps4
  have hcon := fun (W : World) (hB : Below w.heap.size w W) => large_is ax cx nx lx false HNx.out HZx.out W (HAx.out.below hB)
  go_wp2_with fail
  refine (hcon _ HB0.out).mono ?_
  rintro e w1 ⟨rfl, hb1⟩
  have HB1 : Hid (Below w.heap.size w w1) := Lib.hid (below_tr HB0.out hb1)
  clear hcon hb1
  have hcon := fun (W : World) (hB : Below w.heap.size w W) => large_is ay cy ny ly true HNy.out HZy.out W (HAy.out.below hB)
  go_wp2_with fail
  refine (hcon _ HB1.out).mono ?_
  rintro e w2 ⟨rfl, hb2⟩
  have HB2 : Hid (Below w.heap.size w w2) := Lib.hid (below_tr HB1.out hb2)
  clear hcon hb2
  go_wp2_with fail
  go_ret
  exact ⟨rfl, HB2.out⟩

set_option maxRecDepth 100000 in
set_option maxHeartbeats 8000000 in
theorem tells_3 (ax : Option Addr) (cx nx : Nat) (lx : List Val) (ay : Option Addr) (cy ny : Nat) (ly : List Val) (a' : Option Addr) (c' k : Nat) (cs : List Col) (hnx : lx.length = nx) (hny : ly.length = ny) (hk : cs.length = k) (hzx : largeB lx = false) (hzy : largeB ly = false) (hs : 1000 < k) (w : World) (hg : GoodT w) (hx : SlL w ax cx lx) (hy : SlL w ay cy ly) (hC : SlC w a' c' cs) :
    Calls Tryd.prog 4 #[.slice ax nx cx, .slice ay ny cy, .slice a' k c'] w fun e w' => e = .returned (.bool true) ∧ Below w.heap.size w w' := by
  have hsz : 1000 < (k : Int) := by omega
  have HB0 : Hid (Below w.heap.size w w) := Lib.hid (Below.refl _ _)
  have HG := Lib.hid hg
  have HC := Lib.hid hC
  have HK := Lib.hid hk
  have HAx := Lib.hid hx
  have HNx := Lib.hid hnx
  have HAy := Lib.hid hy
  have HNy := Lib.hid hny
  have HZx := Lib.hid hzx
  have HZy := Lib.hid hzy
  clear hg hC hk hx hy hnx hny hzx hzy
  go_enter Tryd.func4, Tryd.ntmps4
  have hcon := fun (W : World) (hB : Below w.heap.size w W) => large_is ax cx nx lx false HNx.out HZx.out W (HAx.out.below hB)
  go_wp2_with fail
  refine (hcon _ HB0.out).mono ?_
  rintro e w1 ⟨rfl, hb1⟩
  have HB1 : Hid (Below w.heap.size w w1) := Lib.hid (below_tr HB0.out hb1)
  clear hcon hb1
  have hcon := fun (W : World) (hB : Below w.heap.size w W) => large_is ay cy ny ly false HNy.out HZy.out W (HAy.out.below hB)
  go_wp2_with fail
  refine (hcon _ HB1.out).mono ?_
  rintro e w2 ⟨rfl, hb2⟩
  have HB2 : Hid (Below w.heap.size w w2) := Lib.hid (below_tr HB1.out hb2)
  clear hcon hb2
  go_wp2_with fail
  go_ret
  exact ⟨rfl, HB2.out⟩

set_option maxRecDepth 100000 in
set_option maxHeartbeats 8000000 in
theorem tells_4 (ax : Option Addr) (cx nx : Nat) (lx : List Val) (ay : Option Addr) (cy ny : Nat) (ly : List Val) (a' : Option Addr) (c' k : Nat) (cs : List Col) (hnx : lx.length = nx) (hny : ly.length = ny) (hk : cs.length = k) (hzx : largeB lx = false) (hzy : largeB ly = false) (hs : k ≤ 1000) (w : World) (hg : GoodT w) (hx : SlL w ax cx lx) (hy : SlL w ay cy ly) (hC : SlC w a' c' cs) :
    Calls Tryd.prog 4 #[.slice ax nx cx, .slice ay ny cy, .slice a' k c'] w fun e w' => e = .returned (.bool true) ∧ Below w.heap.size w w' := by
  have hsz : ¬ 1000 < (k : Int) := by omega
  have HB0 : Hid (Below w.heap.size w w) := Lib.hid (Below.refl _ _)
  have HG := Lib.hid hg
  have HC := Lib.hid hC
  have HK := Lib.hid hk
  have HAx := Lib.hid hx
  have HNx := Lib.hid hnx
  have HAy := Lib.hid hy
  have HNy := Lib.hid hny
  have HZx := Lib.hid hzx
  have HZy := Lib.hid hzy
  clear hg hC hk hx hy hnx hny hzx hzy
  go_enter Tryd.func4, Tryd.ntmps4
  have hcon := fun (W : World) (hB : Below w.heap.size w W) => large_is ax cx nx lx false HNx.out HZx.out W (HAx.out.below hB)
  go_wp2_with fail
  refine (hcon _ HB0.out).mono ?_
  rintro e w1 ⟨rfl, hb1⟩
  have HB1 : Hid (Below w.heap.size w w1) := Lib.hid (below_tr HB0.out hb1)
  clear hcon hb1
  have hcon := fun (W : World) (hB : Below w.heap.size w W) => large_is ay cy ny ly false HNy.out HZy.out W (HAy.out.below hB)
  go_wp2_with fail
  refine (hcon _ HB1.out).mono ?_
  rintro e w2 ⟨rfl, hb2⟩
  have HB2 : Hid (Below w.heap.size w w2) := Lib.hid (below_tr HB1.out hb2)
  clear hcon hb2
  have HJx : Hid ((jt lx).length ≤ 100000 ∧ nx ≤ 100000) := Lib.hid (by have := small_jt HZx.out HAx.out.wf; have := HNx.out; omega)
  obtain ⟨a1, c1, W1, r1, s1, b1⟩ := one_app (HAx.out.below HB2.out) (by rw [HNx.out]; have := HJx.out.2; omega)
  rw [HNx.out] at r1
  have R1 := Lib.hid r1
  have S1 := Lib.hid s1
  have HBW : Hid (Below w.heap.size w W1) := Lib.hid (below_tr HB2.out b1)
  obtain ⟨r, hr⟩ : ∃ r, fitE lx (tys cs) = r := ⟨_, rfl⟩
  obtain ⟨p, hp⟩ : ∃ p : ByteArray, (⟨(rowT lx).toArray⟩ : ByteArray) = p := ⟨_, rfl⟩
  obtain ⟨z, hz⟩ : ∃ z, decide (lx = ly) = z := ⟨_, rfl⟩
  obtain ⟨q, hq⟩ : ∃ q, cmpL lx ly = q := ⟨_, rfl⟩
  have HR := Lib.hid hr
  have HPx : Hid (rowT lx = p.data.toList) := Lib.hid (by rw [← hp])
  have HQ := Lib.hid hz
  have HO := Lib.hid hq
  clear r1 s1 b1 hr hp hz hq
  have hcon := fun (W : World) (hB : Below W1.heap.size W1 W) => fitr_is a1 a' c1 c' nx k lx cs r HNx.out HK.out HR.out W (S1.out.below hB) ((HC.out.below HBW.out).below hB)
  go_wp2_with (at_builtin; refine append_stepW rfl _ _ 35 rfl _ _ _ _ rfl rfl R1.out ?_)
  refine (hcon _ (Below.refl _ _)).mono ?_
  rintro e w3 ⟨rfl, hb3⟩
  have HD3 : Hid (Below W1.heap.size W1 w3) := Lib.hid hb3
  clear hcon hb3
  have hcon := fun (W : World) (hB : Below W1.heap.size W1 W) => rfitr_is ax a' cx c' nx k lx cs r HNx.out HK.out HR.out W ((HAx.out.below HBW.out).below hB) ((HC.out.below HBW.out).below hB)
  go_wp2_with fail
  refine (hcon _ HD3.out).mono ?_
  rintro e w4 ⟨rfl, hb4⟩
  have HD4 : Hid (Below W1.heap.size W1 w4) := Lib.hid (below_tr HD3.out hb4)
  clear hcon hb4
  have hcon := fun (W : World) (hB : Below W1.heap.size W1 W) => text_is a1 c1 nx lx p HNx.out HJx.out.2 HJx.out.1 HPx.out W ((HG.out.below HBW.out).below hB) (S1.out.below hB)
  go_wp2_with fail
  refine (hcon _ HD4.out).mono ?_
  rintro e w5 ⟨rfl, hb5⟩
  have HD5 : Hid (Below W1.heap.size W1 w5) := Lib.hid (below_tr HD4.out hb5)
  clear hcon hb5
  have hcon := fun (W : World) (hB : Below W1.heap.size W1 W) => rtextr_is ax cx nx lx p HNx.out HJx.out.2 HJx.out.1 HPx.out W ((HAx.out.below HBW.out).below hB)
  go_wp2_with fail
  refine (hcon _ HD5.out).mono ?_
  rintro e w6 ⟨rfl, hb6⟩
  have HD6 : Hid (Below W1.heap.size W1 w6) := Lib.hid (below_tr HD5.out hb6)
  clear hcon hb6
  have hcon := fun (W : World) (hB : Below W1.heap.size W1 W) => same_is a1 ay c1 cy nx ny lx ly z HNx.out HNy.out HQ.out W (S1.out.below hB) ((HAy.out.below HBW.out).below hB)
  go_wp2_with fail
  refine (hcon _ HD6.out).mono ?_
  rintro e w7 ⟨rfl, hb7⟩
  have HD7 : Hid (Below W1.heap.size W1 w7) := Lib.hid (below_tr HD6.out hb7)
  clear hcon hb7
  have hcon := fun (W : World) (hB : Below W1.heap.size W1 W) => rsame_is ax ay cx cy nx ny lx ly z HNx.out HNy.out HQ.out W ((HAx.out.below HBW.out).below hB) ((HAy.out.below HBW.out).below hB)
  go_wp2_with fail
  refine (hcon _ HD7.out).mono ?_
  rintro e w8 ⟨rfl, hb8⟩
  have HD8 : Hid (Below W1.heap.size W1 w8) := Lib.hid (below_tr HD7.out hb8)
  clear hcon hb8
  have hcon := fun (W : World) (hB : Below W1.heap.size W1 W) => comp_is a1 ay c1 cy nx ny lx ly q HNx.out HNy.out HO.out W (S1.out.below hB) ((HAy.out.below HBW.out).below hB)
  go_wp2_with fail
  refine (hcon _ HD8.out).mono ?_
  rintro e w9 ⟨rfl, hb9⟩
  have HD9 : Hid (Below W1.heap.size W1 w9) := Lib.hid (below_tr HD8.out hb9)
  clear hcon hb9
  have hcon := fun (W : World) (hB : Below W1.heap.size W1 W) => rcomp_is ax ay cx cy nx ny lx ly q HNx.out HNy.out HO.out W ((HAx.out.below HBW.out).below hB) ((HAy.out.below HBW.out).below hB)
  go_wp2_with fail
  refine (hcon _ HD9.out).mono ?_
  rintro e w10 ⟨rfl, hb10⟩
  have HD10 : Hid (Below W1.heap.size W1 w10) := Lib.hid (below_tr HD9.out hb10)
  clear hcon hb10
  have hcon := fun (W : World) (hB : Below W1.heap.size W1 W) => rsame_is a1 ax c1 cx nx nx lx lx true HNx.out HNx.out (by simp) W (S1.out.below hB) ((HAx.out.below HBW.out).below hB)
  go_wp2_with fail
  refine (hcon _ HD10.out).mono ?_
  rintro e w11 ⟨rfl, hb11⟩
  have HD11 : Hid (Below W1.heap.size W1 w11) := Lib.hid (below_tr HD10.out hb11)
  clear hcon hb11
  go_wp2_with fail
  go_ret
  exact ⟨rfl, below_tr HBW.out HD11.out⟩

theorem tells_law (ax : Option Addr) (cx nx : Nat) (lx : List Val) (ay : Option Addr) (cy ny : Nat) (ly : List Val) (a' : Option Addr) (c' k : Nat) (cs : List Col) (hnx : lx.length = nx) (hny : ly.length = ny) (hk : cs.length = k) (w : World) (hg : GoodT w) (hx : SlL w ax cx lx) (hy : SlL w ay cy ly) (hC : SlC w a' c' cs) :
    Calls Tryd.prog 4 #[.slice ax nx cx, .slice ay ny cy, .slice a' k c'] w fun e w' => e = .returned (.bool true) ∧ Below w.heap.size w w' := by
  cases hzx : largeB lx
  · cases hzy : largeB ly
    · by_cases h : 1000 < k
      · exact tells_3 ax cx nx lx ay cy ny ly a' c' k cs hnx hny hk hzx hzy h w hg hx hy hC
      · exact tells_4 ax cx nx lx ay cy ny ly a' c' k cs hnx hny hk hzx hzy (by omega) w hg hx hy hC
    · exact tells_2 ax cx nx lx ay cy ny ly a' c' k cs hnx hny hk hzx hzy w hg hx hy hC
  · exact tells_1 ax cx nx lx ay cy ny ly a' c' k cs hnx hny hk hzx w hg hx hy hC

end Go.Proofs.YtoglaibcmfjclaaDoor
