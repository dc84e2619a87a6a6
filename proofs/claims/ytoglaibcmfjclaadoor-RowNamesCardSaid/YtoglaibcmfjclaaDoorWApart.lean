/-
  The law RowApart, walked.
-/
import Derived.Test.YtoglaibcmfjclaaDoorWLaw1
namespace Go.Proofs.YtoglaibcmfjclaaDoor
open Go.RowKit

theorem small_jt {l : List Val} (h : largeB l = false) (hw : ∀ v ∈ l, v.wf) : (jt l).length ≤ 90000 ∧ l.length ≤ 2000 := by
  have h1 := small_sum h
  have h2 := jt_len l hw
  have h3 := small_len h
  omega

/-- The texts as far as i values, put together. -/
def joinB (l : List Val) (i : Nat) : ByteArray := ⟨(jt (l.take i)).toArray⟩

theorem joinB_first {l : List Val} {x : Val} (hx : l[0]? = some x) : joinB l 1 = joinB l 0 ++ txB x := by
  unfold joinB txB
  rw [take_snoc hx, ba_app]
  simp [jt_one, jt_nil]

theorem joinB_next {l : List Val} {i : Nat} {x : Val} (hi : 0 < i) (hx : l[i]? = some x) : joinB l (i + 1) = joinB l i ++ ⟨#[44, 32]⟩ ++ txB x := by
  have hne : l.take i ≠ [] := by
    have h1 := (List.getElem?_eq_some_iff.1 hx).1
    intro e
    have h2 := congrArg List.length e
    rw [List.length_take, List.length_nil] at h2
    omega
  unfold joinB txB
  rw [take_snoc hx, jt_snoc _ _ hne, show (⟨#[44, 32]⟩ : ByteArray) = ⟨([44, 32] : List UInt8).toArray⟩ from rfl, ba_app, ba_app]
  simp

theorem joinB_size (l : List Val) (i : Nat) (h : (jt l).length ≤ 90000) : (joinB l i).size ≤ 90000 := by
  have := jt_take l i
  show (jt (l.take i)).toArray.size ≤ 90000
  rw [List.size_toArray]
  omega

theorem joinB_all (l : List Val) (i : Nat) (hi : l.length ≤ i) (h : l.all mayV = true) : (⟨#[40]⟩ ++ joinB l i) ++ ⟨#[41]⟩ = (⟨(rowT l).toArray⟩ : ByteArray) := by
  unfold joinB
  rw [List.take_of_length_le hi, rowT_good h, show (⟨#[40]⟩ : ByteArray) = ⟨([40] : List UInt8).toArray⟩ from rfl, show (⟨#[41]⟩ : ByteArray) = ⟨([41] : List UInt8).toArray⟩ from rfl, ba_app, ba_app]
  simp

theorem toList_ne {p : ByteArray} {l : List UInt8} (h : l = p.data.toList) (hne : l ≠ []) : (p.toList == []) = false := by
  rw [ByteArray.toList_eq, ← h]
  cases l with
  | nil => exact absurd rfl hne
  | cons a b => rfl

set_option maxRecDepth 100000 in
set_option maxHeartbeats 8000000 in
theorem apart_x (ax : Option Addr) (cx nx : Nat) (lx : List Val) (ay : Option Addr) (cy ny : Nat) (ly : List Val) (hnx : lx.length = nx) (hny : ly.length = ny) (w : World) (hg : Good w) (hx : SlL w ax cx lx) (hy : SlL w ay cy ly) (hm : lx.all mayV = false) :
    Calls Tryd.prog 10 #[.slice ax nx cx, .slice ay ny cy] w fun e w' => e = .returned (.bool true) ∧ Below w.heap.size w w' := by
  have HB0 : Hid (Below w.heap.size w w) := Lib.hid (Below.refl _ _)
  have HG := Lib.hid hg
  have HAx := Lib.hid hx
  have HNx := Lib.hid hnx
  have HAy := Lib.hid hy
  have HNy := Lib.hid hny
  clear hg hx hnx hy hny
  go_enter Tryd.func10, Tryd.ntmps10
  have hcon := fun (W : World) (hB : Below w.heap.size w W) => works_is W (HG.out.below hB)
  go_wp2_with fail
  refine (hcon _ HB0.out).mono ?_
  rintro e w1 ⟨rfl, hb1⟩
  have HB1 : Hid (Below w.heap.size w w1) := Lib.hid (below_tr HB0.out hb1)
  clear hcon hb1
  obtain ⟨zx, hzx⟩ : ∃ z, largeB lx = z := ⟨_, rfl⟩
  have HZx := Lib.hid hzx
  have hcon := fun (W : World) (hB : Below w.heap.size w W) => large_is ax cx nx lx zx HNx.out HZx.out W (HAx.out.below hB)
  clear hzx
  go_wp2_with fail
  refine (hcon _ HB1.out).mono ?_
  rintro e w2 ⟨rfl, hb2⟩
  have HB2 : Hid (Below w.heap.size w w2) := Lib.hid (below_tr HB1.out hb2)
  clear hcon hb2
  cases zx
  case' true =>
    have hcon := fun (W : World) (hB : Below w.heap.size w W) => works_is W (HG.out.below hB)
    go_wp2_with fail
    refine (hcon _ HB2.out).mono ?_
    rintro e w3 ⟨rfl, hb3⟩
    have HB3 : Hid (Below w.heap.size w w3) := Lib.hid (below_tr HB2.out hb3)
    clear hcon hb3
    go_wp2_with fail
    go_ret
    exact ⟨rfl, HB3.out⟩
  obtain ⟨zy, hzy⟩ : ∃ z, largeB ly = z := ⟨_, rfl⟩
  have HZy := Lib.hid hzy
  have hcon := fun (W : World) (hB : Below w.heap.size w W) => large_is ay cy ny ly zy HNy.out HZy.out W (HAy.out.below hB)
  clear hzy
  go_wp2_with fail
  refine (hcon _ HB2.out).mono ?_
  rintro e w3 ⟨rfl, hb3⟩
  have HB3 : Hid (Below w.heap.size w w3) := Lib.hid (below_tr HB2.out hb3)
  clear hcon hb3
  cases zy
  case' true =>
    have hcon := fun (W : World) (hB : Below w.heap.size w W) => works_is W (HG.out.below hB)
    go_wp2_with fail
    refine (hcon _ HB3.out).mono ?_
    rintro e w4 ⟨rfl, hb4⟩
    have HB4 : Hid (Below w.heap.size w w4) := Lib.hid (below_tr HB3.out hb4)
    clear hcon hb4
    go_wp2_with fail
    go_ret
    exact ⟨rfl, HB4.out⟩
  have HJx : Hid ((jt lx).length ≤ 100000 ∧ nx ≤ 100000) := Lib.hid (by have := small_jt HZx.out HAx.out.wf; have := HNx.out; omega)
  have HJy : Hid ((jt ly).length ≤ 100000 ∧ ny ≤ 100000) := Lib.hid (by have := small_jt HZy.out HAy.out.wf; have := HNy.out; omega)
  obtain ⟨q, hq⟩ : ∃ q : ByteArray, (⟨(rowT ly).toArray⟩ : ByteArray) = q := ⟨_, rfl⟩
  have HPx : Hid (rowT lx = (⟨#[]⟩ : ByteArray).data.toList) := Lib.hid (rowT_bad hm)
  have HPy : Hid (rowT ly = q.data.toList) := Lib.hid (by rw [← hq])
  clear hq hm
  have hcon := fun (W : World) (hB : Below w.heap.size w W) => text_is ax cx nx lx ⟨#[]⟩ HNx.out HJx.out.2 HJx.out.1 HPx.out W (HG.out.below hB).toGoodT (HAx.out.below hB)
  go_wp2_with fail
  refine (hcon _ HB3.out).mono ?_
  rintro e w4 ⟨rfl, hb4⟩
  have HB4 : Hid (Below w.heap.size w w4) := Lib.hid (below_tr HB3.out hb4)
  clear hcon hb4
  have hcon := fun (W : World) (hB : Below w.heap.size w W) => text_is ay cy ny ly q HNy.out HJy.out.2 HJy.out.1 HPy.out W (HG.out.below hB).toGoodT (HAy.out.below hB)
  go_wp2_with fail
  refine (hcon _ HB4.out).mono ?_
  rintro e w5 ⟨rfl, hb5⟩
  have HB5 : Hid (Below w.heap.size w w5) := Lib.hid (below_tr HB4.out hb5)
  clear hcon hb5
  go_wp2_with fail
  go_ret
  exact ⟨rfl, HB5.out⟩

set_option maxRecDepth 100000 in
set_option maxHeartbeats 8000000 in
theorem apart_y (ax : Option Addr) (cx nx : Nat) (lx : List Val) (ay : Option Addr) (cy ny : Nat) (ly : List Val) (hnx : lx.length = nx) (hny : ly.length = ny) (w : World) (hg : Good w) (hx : SlL w ax cx lx) (hy : SlL w ay cy ly) (hm : lx.all mayV = true) (hm2 : ly.all mayV = false) :
    Calls Tryd.prog 10 #[.slice ax nx cx, .slice ay ny cy] w fun e w' => e = .returned (.bool true) ∧ Below w.heap.size w w' := by
  have HB0 : Hid (Below w.heap.size w w) := Lib.hid (Below.refl _ _)
  have HG := Lib.hid hg
  have HAx := Lib.hid hx
  have HNx := Lib.hid hnx
  have HAy := Lib.hid hy
  have HNy := Lib.hid hny
  clear hg hx hnx hy hny
  go_enter Tryd.func10, Tryd.ntmps10
  have hcon := fun (W : World) (hB : Below w.heap.size w W) => works_is W (HG.out.below hB)
  go_wp2_with fail
  refine (hcon _ HB0.out).mono ?_
  rintro e w1 ⟨rfl, hb1⟩
  have HB1 : Hid (Below w.heap.size w w1) := Lib.hid (below_tr HB0.out hb1)
  clear hcon hb1
  obtain ⟨zx, hzx⟩ : ∃ z, largeB lx = z := ⟨_, rfl⟩
  have HZx := Lib.hid hzx
  have hcon := fun (W : World) (hB : Below w.heap.size w W) => large_is ax cx nx lx zx HNx.out HZx.out W (HAx.out.below hB)
  clear hzx
  go_wp2_with fail
  refine (hcon _ HB1.out).mono ?_
  rintro e w2 ⟨rfl, hb2⟩
  have HB2 : Hid (Below w.heap.size w w2) := Lib.hid (below_tr HB1.out hb2)
  clear hcon hb2
  cases zx
  case' true =>
    have hcon := fun (W : World) (hB : Below w.heap.size w W) => works_is W (HG.out.below hB)
    go_wp2_with fail
    refine (hcon _ HB2.out).mono ?_
    rintro e w3 ⟨rfl, hb3⟩
    have HB3 : Hid (Below w.heap.size w w3) := Lib.hid (below_tr HB2.out hb3)
    clear hcon hb3
    go_wp2_with fail
    go_ret
    exact ⟨rfl, HB3.out⟩
  obtain ⟨zy, hzy⟩ : ∃ z, largeB ly = z := ⟨_, rfl⟩
  have HZy := Lib.hid hzy
  have hcon := fun (W : World) (hB : Below w.heap.size w W) => large_is ay cy ny ly zy HNy.out HZy.out W (HAy.out.below hB)
  clear hzy
  go_wp2_with fail
  refine (hcon _ HB2.out).mono ?_
  rintro e w3 ⟨rfl, hb3⟩
  have HB3 : Hid (Below w.heap.size w w3) := Lib.hid (below_tr HB2.out hb3)
  clear hcon hb3
  cases zy
  case' true =>
    have hcon := fun (W : World) (hB : Below w.heap.size w W) => works_is W (HG.out.below hB)
    go_wp2_with fail
    refine (hcon _ HB3.out).mono ?_
    rintro e w4 ⟨rfl, hb4⟩
    have HB4 : Hid (Below w.heap.size w w4) := Lib.hid (below_tr HB3.out hb4)
    clear hcon hb4
    go_wp2_with fail
    go_ret
    exact ⟨rfl, HB4.out⟩
  have HJx : Hid ((jt lx).length ≤ 100000 ∧ nx ≤ 100000) := Lib.hid (by have := small_jt HZx.out HAx.out.wf; have := HNx.out; omega)
  have HJy : Hid ((jt ly).length ≤ 100000 ∧ ny ≤ 100000) := Lib.hid (by have := small_jt HZy.out HAy.out.wf; have := HNy.out; omega)
  obtain ⟨p, hp⟩ : ∃ p : ByteArray, (⟨(rowT lx).toArray⟩ : ByteArray) = p := ⟨_, rfl⟩
  have HPx : Hid (rowT lx = p.data.toList) := Lib.hid (by rw [← hp])
  have HPy : Hid (rowT ly = (⟨#[]⟩ : ByteArray).data.toList) := Lib.hid (rowT_bad hm2)
  have hpe := toList_ne HPx.out (rowT_ne.2 hm)
  clear hp hm hm2
  have hcon := fun (W : World) (hB : Below w.heap.size w W) => text_is ax cx nx lx p HNx.out HJx.out.2 HJx.out.1 HPx.out W (HG.out.below hB).toGoodT (HAx.out.below hB)
  go_wp2_with fail
  refine (hcon _ HB3.out).mono ?_
  rintro e w4 ⟨rfl, hb4⟩
  have HB4 : Hid (Below w.heap.size w w4) := Lib.hid (below_tr HB3.out hb4)
  clear hcon hb4
  have hcon := fun (W : World) (hB : Below w.heap.size w W) => text_is ay cy ny ly ⟨#[]⟩ HNy.out HJy.out.2 HJy.out.1 HPy.out W (HG.out.below hB).toGoodT (HAy.out.below hB)
  go_wp2_with fail
  refine (hcon _ HB4.out).mono ?_
  rintro e w5 ⟨rfl, hb5⟩
  have HB5 : Hid (Below w.heap.size w w5) := Lib.hid (below_tr HB4.out hb5)
  clear hcon hb5
  go_wp2_with fail
  go_ret
  exact ⟨rfl, HB5.out⟩

set_option maxRecDepth 100000 in
set_option maxHeartbeats 8000000 in
theorem apart_b (ax : Option Addr) (cx nx : Nat) (lx : List Val) (ay : Option Addr) (cy ny : Nat) (ly : List Val) (hnx : lx.length = nx) (hny : ly.length = ny) (w : World) (hg : Good w) (hx : SlL w ax cx lx) (hy : SlL w ay cy ly) (hm : lx.all mayV = true) (hm2 : ly.all mayV = true) :
    Calls Tryd.prog 10 #[.slice ax nx cx, .slice ay ny cy] w fun e w' => e = .returned (.bool true) ∧ Below w.heap.size w w' := by
  have HB0 : Hid (Below w.heap.size w w) := Lib.hid (Below.refl _ _)
  have HG := Lib.hid hg
  have HAx := Lib.hid hx
  have HNx := Lib.hid hnx
  have HAy := Lib.hid hy
  have HNy := Lib.hid hny
  clear hg hx hnx hy hny
  go_enter Tryd.func10, Tryd.ntmps10
  have hcon := fun (W : World) (hB : Below w.heap.size w W) => works_is W (HG.out.below hB)
  go_wp2_with fail
  refine (hcon _ HB0.out).mono ?_
  rintro e w1 ⟨rfl, hb1⟩
  have HB1 : Hid (Below w.heap.size w w1) := Lib.hid (below_tr HB0.out hb1)
  clear hcon hb1
  obtain ⟨zx, hzx⟩ : ∃ z, largeB lx = z := ⟨_, rfl⟩
  have HZx := Lib.hid hzx
  have hcon := fun (W : World) (hB : Below w.heap.size w W) => large_is ax cx nx lx zx HNx.out HZx.out W (HAx.out.below hB)
  clear hzx
  go_wp2_with fail
  refine (hcon _ HB1.out).mono ?_
  rintro e w2 ⟨rfl, hb2⟩
  have HB2 : Hid (Below w.heap.size w w2) := Lib.hid (below_tr HB1.out hb2)
  clear hcon hb2
  cases zx
  case' true =>
    have hcon := fun (W : World) (hB : Below w.heap.size w W) => works_is W (HG.out.below hB)
    go_wp2_with fail
    refine (hcon _ HB2.out).mono ?_
    rintro e w3 ⟨rfl, hb3⟩
    have HB3 : Hid (Below w.heap.size w w3) := Lib.hid (below_tr HB2.out hb3)
    clear hcon hb3
    go_wp2_with fail
    go_ret
    exact ⟨rfl, HB3.out⟩
  obtain ⟨zy, hzy⟩ : ∃ z, largeB ly = z := ⟨_, rfl⟩
  have HZy := Lib.hid hzy
  have hcon := fun (W : World) (hB : Below w.heap.size w W) => large_is ay cy ny ly zy HNy.out HZy.out W (HAy.out.below hB)
  clear hzy
  go_wp2_with fail
  refine (hcon _ HB2.out).mono ?_
  rintro e w3 ⟨rfl, hb3⟩
  have HB3 : Hid (Below w.heap.size w w3) := Lib.hid (below_tr HB2.out hb3)
  clear hcon hb3
  cases zy
  case' true =>
    have hcon := fun (W : World) (hB : Below w.heap.size w W) => works_is W (HG.out.below hB)
    go_wp2_with fail
    refine (hcon _ HB3.out).mono ?_
    rintro e w4 ⟨rfl, hb4⟩
    have HB4 : Hid (Below w.heap.size w w4) := Lib.hid (below_tr HB3.out hb4)
    clear hcon hb4
    go_wp2_with fail
    go_ret
    exact ⟨rfl, HB4.out⟩
  have HJx : Hid ((jt lx).length ≤ 100000 ∧ nx ≤ 100000) := Lib.hid (by have := small_jt HZx.out HAx.out.wf; have := HNx.out; omega)
  have HJy : Hid ((jt ly).length ≤ 100000 ∧ ny ≤ 100000) := Lib.hid (by have := small_jt HZy.out HAy.out.wf; have := HNy.out; omega)
  obtain ⟨p, hp⟩ : ∃ p : ByteArray, (⟨(rowT lx).toArray⟩ : ByteArray) = p := ⟨_, rfl⟩
  obtain ⟨q, hq⟩ : ∃ q : ByteArray, (⟨(rowT ly).toArray⟩ : ByteArray) = q := ⟨_, rfl⟩
  have HPx : Hid (rowT lx = p.data.toList) := Lib.hid (by rw [← hp])
  have HPy : Hid (rowT ly = q.data.toList) := Lib.hid (by rw [← hq])
  have hpe := toList_ne HPx.out (rowT_ne.2 hm)
  have hqe := toList_ne HPy.out (rowT_ne.2 hm2)
  have HPP := Lib.hid hp
  have HMx := Lib.hid hm
  have HMy := Lib.hid hm2
  clear hp hq hm hm2
  have hcon := fun (W : World) (hB : Below w.heap.size w W) => text_is ax cx nx lx p HNx.out HJx.out.2 HJx.out.1 HPx.out W (HG.out.below hB).toGoodT (HAx.out.below hB)
  go_wp2_with fail
  refine (hcon _ HB3.out).mono ?_
  rintro e w4 ⟨rfl, hb4⟩
  have HB4 : Hid (Below w.heap.size w w4) := Lib.hid (below_tr HB3.out hb4)
  clear hcon hb4
  have hcon := fun (W : World) (hB : Below w.heap.size w W) => text_is ay cy ny ly q HNy.out HJy.out.2 HJy.out.1 HPy.out W (HG.out.below hB).toGoodT (HAy.out.below hB)
  go_wp2_with fail
  refine (hcon _ HB4.out).mono ?_
  rintro e w5 ⟨rfl, hb5⟩
  have HB5 : Hid (Below w.heap.size w w5) := Lib.hid (below_tr HB4.out hb5)
  clear hcon hb5
  go_wp2_with fail
  go_loopg [7, 8] nx (fun gg s7 s8 wr => ∃ (i : Nat) (S : ByteArray), s8 = .int .i64 i ∧ s7 = .string S ∧ i ≤ nx ∧ nx - i ≤ gg ∧ Hid (joinB lx i = S) ∧ Hid (Below w.heap.size w wr))
  case atStart => exact ⟨0, _, rfl, rfl, Nat.zero_le _, by omega, Lib.hid (by simp [joinB, jt_nil]), HB5⟩
  case round =>
    obtain ⟨i, S, rfl, rfl, hin, hgg, HS, BW⟩ := hrel
    have hj9 : (jt lx).length ≤ 90000 := (small_jt HZx.out HAx.out.wf).1
    have hss : S.size ≤ 90000 := by rw [← HS.out]; exact joinB_size lx i hj9
    have HJ9 := Lib.hid hj9
    have hbn : nx ≤ 100000 := HJx.out.2
    clear hj9
    by_cases hlt : i < nx
    · have hltz : (i : Int) < (nx : Int) := by omega
      have z1 : ¬ nx ≤ i := by omega
      obtain ⟨x, hx⟩ := get_is (l := lx) (i := i) (by rw [HNx.out]; exact hlt)
      obtain ⟨b, o, rfl, ha⟩ := at_l HAx.out hx
      have hax := ha.below BW.out
      obtain ⟨d0, d1, d2, d3, d4⟩ := id hax
      obtain ⟨t, ht⟩ : ∃ t, txB x = t := ⟨_, rfl⟩
      have htl : txV x = t.data.toList := by rw [← ht]; exact txB_list x
      have hcon := fun W (hW : Below wr.heap.size wr W) => text_v x (get_wf HAx.out.wf hx) t htl W ((HG.out.below BW.out).below hW).toGoodT
      have HT := Lib.hid ht
      have HX := Lib.hid hx
      clear ha hx hax
      by_cases hi0 : i = 0
      · subst hi0
        simp only [Nat.zero_mul, Nat.add_zero] at d0 d1 d2 d3
        have HE := Lib.hid (joinB_first HX.out)
        have hts : S.size + t.size ≤ 90000 := by
          have h1 := joinB_size lx 1 HJ9.out
          rw [HE.out, HS.out, ByteArray.size_append, HT.out] at h1
          exact h1
        clear ht htl
        go_wp2_with fail
        refine (hcon _ (Below.refl _ _)).mono ?_
        rintro e w3' ⟨rfl, hb3⟩
        have HB3' := Lib.hid (BW.out.trans (hb3.mono BW.out.size))
        clear hcon hb3 d0 d1 d2 d3 d4
        go_wp2_with fail
        go_roundg (nx - (0 + 1))
        case measure => omega
        case rel => exact ⟨0 + 1, _, by go_num, rfl, by omega, Nat.le_refl _, Lib.hid (by rw [HE.out, HS.out, HT.out]), HB3'⟩
      · have hiz : 0 < (i : Int) := by omega
        have HE := Lib.hid (joinB_next (by omega) HX.out)
        have hts : S.size + 2 + t.size ≤ 90000 := by
          have h1 := joinB_size lx (i + 1) HJ9.out
          rw [HE.out, HS.out, ByteArray.size_append, ByteArray.size_append, HT.out] at h1
          exact h1
        clear ht htl
        go_wp2_with fail
        refine (hcon _ (Below.refl _ _)).mono ?_
        rintro e w3' ⟨rfl, hb3⟩
        have HB3' := Lib.hid (BW.out.trans (hb3.mono BW.out.size))
        clear hcon hb3 d0 d1 d2 d3 d4
        go_wp2_with fail
        go_roundg (nx - (i + 1))
        case measure => omega
        case rel => exact ⟨i + 1, _, by go_num, rfl, by omega, Nat.le_refl _, Lib.hid (by rw [HE.out, HS.out, HT.out]), HB3'⟩
    · have hltz : ¬ (i : Int) < (nx : Int) := by omega
      have hps : (⟨#[40]⟩ ++ S) ++ ⟨#[41]⟩ = p := by rw [← HPP.out, ← HS.out]; exact joinB_all lx i (by rw [HNx.out]; omega) HMx.out
      obtain ⟨z, hz⟩ : ∃ z, (p.toList == q.toList) = z := ⟨_, rfl⟩
      have HZZ : Hid (decide (lx = ly) = z) := Lib.hid (by
        rw [← hz, Bool.eq_iff_iff, decide_eq_true_eq, beq_iff_eq, ByteArray.toList_eq, ByteArray.toList_eq, ← HPx.out, ← HPy.out]
        exact ⟨fun e => by rw [e], fun e => rowT_inj HMx.out HMy.out HAx.out.wf HAy.out.wf e⟩)
      have hcon := fun W (hW : Below wr.heap.size wr W) => same_is ax ay cx cy nx ny lx ly z HNx.out HNy.out HZZ.out W ((HAx.out.below BW.out).below hW) ((HAy.out.below BW.out).below hW)
      go_wp2_with fail
      refine (hcon _ (Below.refl _ _)).mono ?_
      rintro e w3' ⟨rfl, hb3⟩
      have HB3' := Lib.hid (BW.out.trans (hb3.mono BW.out.size))
      clear hcon hb3
      go_wp2_with fail
      go_ret
      exact ⟨rfl, HB3'.out⟩

theorem apart_law (ax : Option Addr) (cx nx : Nat) (lx : List Val) (ay : Option Addr) (cy ny : Nat) (ly : List Val) (hnx : lx.length = nx) (hny : ly.length = ny) (w : World) (hg : Good w) (hx : SlL w ax cx lx) (hy : SlL w ay cy ly) :
    Calls Tryd.prog 10 #[.slice ax nx cx, .slice ay ny cy] w fun e w' => e = .returned (.bool true) ∧ Below w.heap.size w w' := by
  cases hm : lx.all mayV
  · exact apart_x ax cx nx lx ay cy ny ly hnx hny w hg hx hy hm
  · cases hm2 : ly.all mayV
    · exact apart_y ax cx nx lx ay cy ny ly hnx hny w hg hx hy hm hm2
    · exact apart_b ax cx nx lx ay cy ny ly hnx hny w hg hx hy hm hm2

end Go.Proofs.YtoglaibcmfjclaaDoor
