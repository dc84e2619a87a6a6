/-
  The law RowBack, walked.
-/
import Derived.Test.YtoglaibcmfjclaaDoorWApart
namespace Go.Proofs.YtoglaibcmfjclaaDoor
open Go.RowKit

theorem all_step {l : List Val} {i : Nat} {x : Val} {m : Bool} (h : (l.take i).all mayV = m) (hx : l[i]? = some x) : (l.take (i + 1)).all mayV = (m && mayV x) := by
  rw [take_snoc hx, List.all_append, h]
  simp

set_option maxRecDepth 100000 in
set_option maxHeartbeats 8000000 in
theorem back_big (ax : Option Addr) (cx nx : Nat) (lx : List Val) (s : ByteArray) (hnx : lx.length = nx) (hs : 5000 < s.size) (hs2 : s.size ≤ 140737488351232) (w : World) (hg : Good w) (hx : SlL w ax cx lx) :
    Calls Tryd.prog 6 #[.slice ax nx cx, .string s] w fun e w' => e = .returned (.bool true) ∧ Below w.heap.size w w' := by
  have hsz : 5000 < (s.size : Int) := by omega
  have HB0 : Hid (Below w.heap.size w w) := Lib.hid (Below.refl _ _)
  have HG := Lib.hid hg
  have HAx := Lib.hid hx
  have HNx := Lib.hid hnx
  clear hg hx hnx
  go_enter Tryd.func6, Tryd.ntmps6
  have hcon := fun (W : World) (hB : Below w.heap.size w W) => works_is W (HG.out.below hB)
  go_wp2_with fail
  refine (hcon _ HB0.out).mono ?_
  rintro e w1 ⟨rfl, hb1⟩
  have HB1 : Hid (Below w.heap.size w w1) := Lib.hid (below_tr HB0.out hb1)
  clear hcon hb1
  obtain ⟨zx, hzx⟩ : ∃ z, largeB lx = z := ⟨_, rfl⟩
  have HZx := Lib.hid hzx
  have hcon := fun (W : World) (hB : Below w.heap.size w W) => large_is ax cx nx lx zx HNx.out HZx.out W (HAx.out.below hB)
  clear hzx
  go_wp2_with fail
  refine (hcon _ HB1.out).mono ?_
  rintro e w2 ⟨rfl, hb2⟩
  have HB2 : Hid (Below w.heap.size w w2) := Lib.hid (below_tr HB1.out hb2)
  clear hcon hb2
  cases zx
  case' true =>
    have hcon := fun (W : World) (hB : Below w.heap.size w W) => works_is W (HG.out.below hB)
    go_wp2_with fail
    refine (hcon _ HB2.out).mono ?_
    rintro e w3 ⟨rfl, hb3⟩
    have HB3 : Hid (Below w.heap.size w w3) := Lib.hid (below_tr HB2.out hb3)
    clear hcon hb3
    go_wp2_with fail
    go_ret
    exact ⟨rfl, HB3.out⟩
  have hcon := fun (W : World) (hB : Below w.heap.size w W) => works_is W (HG.out.below hB)
  go_wp2_with fail
  refine (hcon _ HB2.out).mono ?_
  rintro e w3 ⟨rfl, hb3⟩
  have HB3 : Hid (Below w.heap.size w w3) := Lib.hid (below_tr HB2.out hb3)
  clear hcon hb3
  go_wp2_with fail
  go_ret
  exact ⟨rfl, HB3.out⟩

set_option maxRecDepth 100000 in
set_option maxHeartbeats 8000000 in
theorem back_small (ax : Option Addr) (cx nx : Nat) (lx : List Val) (s : ByteArray) (hnx : lx.length = nx) (hs : s.size ≤ 5000) (w : World) (hg : Good w) (hx : SlL w ax cx lx) :
    Calls Tryd.prog 6 #[.slice ax nx cx, .string s] w fun e w' => e = .returned (.bool true) ∧ Below w.heap.size w w' := by
  have hsz : ¬ 5000 < (s.size : Int) := by omega
  have HB0 : Hid (Below w.heap.size w w) := Lib.hid (Below.refl _ _)
  have HG := Lib.hid hg
  have HAx := Lib.hid hx
  have HNx := Lib.hid hnx
  clear hg hx hnx
  go_enter Tryd.func6, Tryd.ntmps6
  have hcon := fun (W : World) (hB : Below w.heap.size w W) => works_is W (HG.out.below hB)
  go_wp2_with fail
  refine (hcon _ HB0.out).mono ?_
  rintro e w1 ⟨rfl, hb1⟩
  have HB1 : Hid (Below w.heap.size w w1) := Lib.hid (below_tr HB0.out hb1)
  clear hcon hb1
  obtain ⟨zx, hzx⟩ : ∃ z, largeB lx = z := ⟨_, rfl⟩
  have HZx := Lib.hid hzx
  have hcon := fun (W : World) (hB : Below w.heap.size w W) => large_is ax cx nx lx zx HNx.out HZx.out W (HAx.out.below hB)
  clear hzx
  go_wp2_with fail
  refine (hcon _ HB1.out).mono ?_
  rintro e w2 ⟨rfl, hb2⟩
  have HB2 : Hid (Below w.heap.size w w2) := Lib.hid (below_tr HB1.out hb2)
  clear hcon hb2
  cases zx
  case' true =>
    have hcon := fun (W : World) (hB : Below w.heap.size w W) => works_is W (HG.out.below hB)
    go_wp2_with fail
    refine (hcon _ HB2.out).mono ?_
    rintro e w3 ⟨rfl, hb3⟩
    have HB3 : Hid (Below w.heap.size w w3) := Lib.hid (below_tr HB2.out hb3)
    clear hcon hb3
    go_wp2_with fail
    go_ret
    exact ⟨rfl, HB3.out⟩
  have HJx : Hid ((jt lx).length ≤ 100000 ∧ nx ≤ 100000) := Lib.hid (by have := small_jt HZx.out HAx.out.wf; have := HNx.out; omega)
  have HSS := Lib.hid hs
  have hbn : nx ≤ 100000 := HJx.out.2
  go_wp2_with fail
  go_loopg [5, 6] nx (fun gg s5 s6 wr => ∃ (i : Nat) (m : Bool), s6 = .int .i64 i ∧ s5 = .bool m ∧ i ≤ nx ∧ nx - i ≤ gg ∧ Hid ((lx.take i).all mayV = m) ∧ Hid (Below w.heap.size w wr))
  case atStart => exact ⟨0, true, rfl, rfl, Nat.zero_le _, by omega, Lib.hid rfl, HB2⟩
  case round =>
    obtain ⟨i, m, rfl, rfl, hin, hgg, HM, BW⟩ := hrel
    by_cases hlt : i < nx
    · have hltz : (i : Int) < (nx : Int) := by omega
      have z1 : ¬ nx ≤ i := by omega
      obtain ⟨x, hx⟩ := get_is (l := lx) (i := i) (by rw [HNx.out]; exact hlt)
      have HX := Lib.hid hx
      cases m
      · clear hx
        go_wp2_with fail
        go_roundg (nx - (i + 1))
        case measure => omega
        case rel => exact ⟨i + 1, false, by go_num, rfl, by omega, Nat.le_refl _, Lib.hid (by rw [all_step HM.out HX.out]; rfl), BW⟩
      · obtain ⟨b, o, rfl, ha⟩ := at_l HAx.out hx
        obtain ⟨d0, d1, d2, d3, d4⟩ := ha.below BW.out
        obtain ⟨z, hz⟩ : ∃ z, mayV x = z := ⟨_, rfl⟩
        have hcon := fun W => may_v x z hz W
        have HZ := Lib.hid hz
        clear ha hx hz
        go_wp2_with fail
        refine (hcon _).mono ?_
        rintro e w3' ⟨rfl, hb3⟩
        have HB3' := Lib.hid (BW.out.trans (hb3.mono BW.out.size))
        clear hcon hb3 d0 d1 d2 d3 d4
        go_wp2_with fail
        go_roundg (nx - (i + 1))
        case measure => omega
        case rel => exact ⟨i + 1, z, by go_num, rfl, by omega, Nat.le_refl _, Lib.hid (by rw [all_step HM.out HX.out, HZ.out]; rfl), HB3'⟩
    · have hltz : ¬ (i : Int) < (nx : Int) := by omega
      have HMX : Hid (lx.all mayV = m) := Lib.hid (by have h := HM.out; rwa [List.take_of_length_le (by rw [HNx.out]; omega)] at h)
      obtain ⟨p, hp⟩ : ∃ p : ByteArray, (⟨(rowT lx).toArray⟩ : ByteArray) = p := ⟨_, rfl⟩
      have HPx : Hid (rowT lx = p.data.toList) := Lib.hid (by rw [← hp])
      have HPZ : Hid (p.size ≤ 90002) := Lib.hid (by
        rw [← hp]
        show (rowT lx).toArray.size ≤ _
        rw [List.size_toArray]
        exact rowT_len HZx.out HAx.out.wf)
      have hct := fun W (hW : Below wr.heap.size wr W) => text_is ax cx nx lx p HNx.out HJx.out.2 HJx.out.1 HPx.out W ((HG.out.below BW.out).below hW).toGoodT ((HAx.out.below BW.out).below hW)
      clear hp
      go_wp2_with fail
      refine (hct _ (Below.refl _ _)).mono ?_
      rintro e w3' ⟨rfl, hb3⟩
      have HB3' : Hid (Below w.heap.size w w3') := Lib.hid (BW.out.trans (hb3.mono BW.out.size))
      have hcp := rparseR_is p (by have := HPZ.out; omega) w3' (HG.out.below HB3'.out)
      clear hct hb3
      go_wp2_with fail
      refine hcp.mono ?_
      rintro e w4' ⟨sv, er, rfl, hri, hb4⟩
      have HB4' : Hid (Below w.heap.size w w4') := Lib.hid (below_tr HB3'.out hb4)
      clear hcp hb4
      have fin : ∀ w5' : World, Below w.heap.size w w5' → Calls Tryd.prog 26 #[.string s] w5' fun e w' => ∃ sv er, e = .returned (.tuple #[sv, .int .i64 er]) ∧ RowIs w' w5'.heap.size (rowP s.data.toList) sv er ∧ Below w5'.heap.size w5' w' := fun w5' hb => rparseR_is s (by have := HSS.out; omega) w5' (HG.out.below hb)
      have FIN := Lib.hid fin
      clear fin
      cases m
      · obtain rfl : p = ⟨#[]⟩ := empty_of (by rw [← HPx.out]; exact rowT_bad HMX.out)
        have hnone : rowP (⟨#[]⟩ : ByteArray).data.toList = none := none_of (by decide +kernel)
        rw [hnone] at hri
        obtain ⟨rfl, rfl⟩ := rowIs_none hri
        clear hri hnone
        have hcs := FIN.out w4' HB4'.out
        have HB5' := HB4'
        go_wp2_with fail
        refine hcs.mono ?_
        rintro e w7' ⟨sv2, er2, rfl, hri2, hb7⟩
        have HB7' : Hid (Below w.heap.size w w7') := Lib.hid (below_tr HB5'.out hb7)
        clear hcs hb7
        cases hr : rowP s.data.toList with
        | none =>
          rw [hr] at hri2
          obtain ⟨rfl, rfl⟩ := rowIs_none hri2
          clear hri2 hr
          go_wp2_with fail
          go_ret
          exact ⟨rfl, HB7'.out⟩
        | some m2 =>
          rw [hr] at hri2
          have hwf := rowP_wf hr
          obtain ⟨rfl, a2, c2, rfl, hsl2⟩ := rowIs_sl hwf.2.2 hri2
          have hlen : (jt m2).length ≤ 100000 ∧ m2.length ≤ 100000 := by
            have e : s.size = s.data.toList.length := rfl
            have h3 := HSS.out
            rw [← hwf.2.1, rowT_good hwf.1] at e
            have := jt_count m2 (fun v hv => List.all_eq_true.1 hwf.1 v hv)
            simp at e
            omega
          have hcon := text_is a2 c2 m2.length m2 s rfl hlen.2 hlen.1 hwf.2.1 w7' (HG.out.below HB7'.out).toGoodT hsl2
          clear hri2 hr hwf hlen hsl2
          go_wp2_with fail
          refine hcon.mono ?_
          rintro e w8' ⟨rfl, hb8⟩
          go_wp2_with fail
          go_ret
          exact ⟨rfl, below_tr HB7'.out hb8⟩
      · have hsome : rowP p.data.toList = some lx := by rw [← HPx.out]; exact rowP_rowT lx HMX.out HAx.out.wf
        rw [hsome] at hri
        obtain ⟨rfl, a1, c1, rfl, hsl⟩ := rowIs_sl HAx.out.wf hri
        have hpe := toList_ne HPx.out (rowT_ne.2 HMX.out)
        have hcon := rsame_is ax a1 cx c1 nx lx.length lx lx true HNx.out rfl (by simp) w4' (HAx.out.below HB4'.out) hsl
        clear hri hsome hsl
        go_wp2_with fail
        refine hcon.mono ?_
        rintro e w5' ⟨rfl, hb5⟩
        have HB5' : Hid (Below w.heap.size w w5') := Lib.hid (below_tr HB4'.out hb5)
        clear hcon hb5
        have hcs := FIN.out w5' HB5'.out
        go_wp2_with fail
        refine hcs.mono ?_
        rintro e w7' ⟨sv2, er2, rfl, hri2, hb7⟩
        have HB7' : Hid (Below w.heap.size w w7') := Lib.hid (below_tr HB5'.out hb7)
        clear hcs hb7
        cases hr : rowP s.data.toList with
        | none =>
          rw [hr] at hri2
          obtain ⟨rfl, rfl⟩ := rowIs_none hri2
          clear hri2 hr
          go_wp2_with fail
          go_ret
          exact ⟨rfl, HB7'.out⟩
        | some m2 =>
          rw [hr] at hri2
          have hwf := rowP_wf hr
          obtain ⟨rfl, a2, c2, rfl, hsl2⟩ := rowIs_sl hwf.2.2 hri2
          have hlen : (jt m2).length ≤ 100000 ∧ m2.length ≤ 100000 := by
            have e : s.size = s.data.toList.length := rfl
            have h3 := HSS.out
            rw [← hwf.2.1, rowT_good hwf.1] at e
            have := jt_count m2 (fun v hv => List.all_eq_true.1 hwf.1 v hv)
            simp at e
            omega
          have hcon := text_is a2 c2 m2.length m2 s rfl hlen.2 hlen.1 hwf.2.1 w7' (HG.out.below HB7'.out).toGoodT hsl2
          clear hri2 hr hwf hlen hsl2
          go_wp2_with fail
          refine hcon.mono ?_
          rintro e w8' ⟨rfl, hb8⟩
          go_wp2_with fail
          go_ret
          exact ⟨rfl, below_tr HB7'.out hb8⟩

theorem back_law (ax : Option Addr) (cx nx : Nat) (lx : List Val) (s : ByteArray) (hnx : lx.length = nx) (hs : s.size ≤ 140737488351232) (w : World) (hg : Good w) (hx : SlL w ax cx lx) :
    Calls Tryd.prog 6 #[.slice ax nx cx, .string s] w fun e w' => e = .returned (.bool true) ∧ Below w.heap.size w w' := by
  by_cases h : 5000 < s.size
  · exact back_big ax cx nx lx s hnx h hs w hg hx
  · exact back_small ax cx nx lx s hnx (by omega) w hg hx

end Go.Proofs.YtoglaibcmfjclaaDoor
