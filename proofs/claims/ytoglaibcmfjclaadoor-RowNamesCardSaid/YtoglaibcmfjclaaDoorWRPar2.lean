/-
  The document's own Parse of a row, between round brackets.
-/
import Derived.Test.YtoglaibcmfjclaaDoorWRPar
namespace Go.Proofs.YtoglaibcmfjclaaDoor
open Go.RowKit

set_option maxRecDepth 100000 in
set_option maxHeartbeats 8000000 in
theorem rprow_ok (s : ByteArray) (h : 2 ≤ s.size) (hs : s.size ≤ 3000) (hz0 : 0 < s.size) (hc : ((s[0].toNat : Int) != 40) = false) (hz1 : s.size - 1 < s.size) (hc1 : ((s[s.size - 1].toNat : Int) != 41) = false) (w : World) :
    Calls Tryd.prog 25 #[.string s] w fun e w' => ∃ sv er, e = .returned (.tuple #[sv, .int .i64 er]) ∧ RowIs w' w.heap.size (rowP s.data.toList) sv er ∧ Below w.heap.size w w' := by
  have hz : ¬ (s.size : Int) < 2 := by omega
  obtain ⟨n, hn⟩ : ∃ n, s.size = n + 1 := ⟨s.size - 1, by omega⟩
  have HL : Hid (s.data.toList.length = n + 1) := Lib.hid hn
  have HNN : Hid (s.size = n + 1) := Lib.hid hn
  have HLAST : Hid (s.data.toList[n]'(by rw [HL.out]; omega) = 41) := Lib.hid (by
    have e : ((s[s.size - 1].toNat : Int) == ((41 : Nat) : Int)) = true := by simpa [bne] using hc1
    rw [byte_eq _ 41 (by decide), decide_eq_true_eq] at e
    have hx : n = s.size - 1 := by omega
    subst hx
    exact e)
  have HROW : Hid (rowP s.data.toList = match goR (n + 1) [] (restL s.data.toList n 1) with | none => none | some m => if rowT m = s.data.toList then some m else none) := Lib.hid (by
    rw [← refP_eq]
    unfold refP
    rw [if_pos ⟨by rw [hasP_of s hz0]; simpa [bne] using hc, by rw [hasS_of s (s.size - 1) (by omega) (by omega)]; simpa [bne] using hc1⟩, HL.out]
    rfl)
  clear hn
  go_enter Tryd.func25, Tryd.ntmps25
  go_wp2_with fail
  go_loopg [4, 5] (n + 2) (fun gg s4 s5 wr => ∃ (a k : Nat) (acc : List Val), s5 = .int .i64 a ∧ 1 ≤ a ∧ a ≤ n + 2 ∧ n + 2 - a ≤ gg ∧ n + 1 ≤ a + k ∧ Hid (wr.ownsRow w.heap.size 25 4 s4 acc.length (flatL acc) ∧ acc.length ≤ a ∧ ∀ x ∈ acc, x.wf) ∧ Hid (goR (k + 1) acc (restL s.data.toList n a) = goR (n + 1) [] (restL s.data.toList n 1)) ∧ Hid (Below w.heap.size w wr))
  case atStart => exact ⟨1, n, [], rfl, Nat.le_refl _, by have := HNN.out; omega, by omega, by omega, Lib.hid ⟨World.ownsRow_nil _ _ _ _, by simp, fun _ h => absurd h List.not_mem_nil⟩, Lib.hid rfl, Lib.hid (Below.refl _ _)⟩
  case round =>
    obtain ⟨a, k, acc, rfl, ha1, han, hgg, hak, OW, HG, BW⟩ := hrel
    have hnz := HNN.out
    by_cases ha : a < n
    · have haz : (a : Int) < (s.size : Int) - 1 := by omega
      obtain ⟨wo, hwo⟩ : ∃ wo, wo = wr := ⟨_, rfl⟩
      subst hwo
      clear hnz
      go_wp2_with fail
      go_loopg [6, 7] (n + 1) (fun gg s6 s7 wr => ∃ (i : Nat) (q : Bool), s6 = .int .i64 ((a + i : Nat) : Int) ∧ s7 = .bool q ∧ a + i ≤ n ∧ n - (a + i) ≤ gg ∧ Hid (CutI (restL s.data.toList n a) q i) ∧ wr = wo)
      case atStart => exact ⟨0, false, rfl, rfl, by omega, by omega, Lib.hid (by simp [CutI]), rfl⟩
      case round =>
        obtain ⟨i, q, rfl, rfl, hin, hgg2, HI, rfl⟩ := hrel
        have hnz := HNN.out
        by_cases hi : a + i < n
        · have hiz : ((a + i : Nat) : Int) < (s.size : Int) - 1 := by omega
          obtain ⟨e, he⟩ : ∃ e, a + i = e := ⟨_, rfl⟩
          have HEI := Lib.hid he
          rw [he] at hiz hi hin hgg2 ⊢
          have hes : e < s.size := by omega
          have hes1 : e + 1 < s.size := by omega
          have hg0 : s.data.toList[e]'(by rw [HL.out]; omega) = s[e] := rfl
          have hg1 : s.data.toList[e + 1]'(by rw [HL.out]; omega) = s[e + 1] := rfl
          obtain ⟨c39, h39⟩ : ∃ c, ((s[e].toNat : Int) == 39) = c := ⟨_, rfl⟩
          obtain ⟨c44, h44⟩ : ∃ c, ((s[e].toNat : Int) == 44) = c := ⟨_, rfl⟩
          obtain ⟨c32, h32⟩ : ∃ c, ((s[e + 1].toNat : Int) == 32) = c := ⟨_, rfl⟩
          have H39 : Hid (s.data.toList[e]'(by rw [HL.out]; omega) = 39 ↔ c39 = true) := Lib.hid (by rw [hg0, ← h39, show (39 : Int) = ((39 : Nat) : Int) from rfl, byte_eq _ 39 (by decide), decide_eq_true_eq]; rfl)
          have H44 : Hid (s.data.toList[e]'(by rw [HL.out]; omega) = 44 ↔ c44 = true) := Lib.hid (by rw [hg0, ← h44, show (44 : Int) = ((44 : Nat) : Int) from rfl, byte_eq _ 44 (by decide), decide_eq_true_eq]; rfl)
          have H32 : Hid (s.data.toList[e + 1]'(by rw [HL.out]; omega) = 32 ↔ c32 = true) := Lib.hid (by rw [hg1, ← h32, show (32 : Int) = ((32 : Nat) : Int) from rfl, byte_eq _ 32 (by decide), decide_eq_true_eq]; rfl)
          have HPRE : Hid (Lib.hasPrefix (restL s.data.toList n e) [44, 32] = true ↔ c44 = true ∧ c32 = true) := Lib.hid (by rw [rest_pre HL.out hi HLAST.out, H44.out, H32.out])
          clear he hnz hg0 hg1
          cases c39
          · have hn39 : ¬ s.data.toList[e]'(by rw [HL.out]; omega) = 39 := fun x => by have := H39.out.1 x; cases this
            have HN39 := Lib.hid hn39
            clear hn39
            cases q
            · cases c44
              · go_wp2_with fail
                go_roundg (n - (e + 1))
                case measure => omega
                case rel => exact ⟨i + 1, false, by have := HEI.out; go_num, rfl, by have := HEI.out; omega, by have := HEI.out; omega, Lib.hid (HI.out.outside (by rw [rest_len HL.out]; have := HEI.out; omega) (by rw [rest_get HL.out (by have := HEI.out; omega)]; have h0 := HN39.out; have h1 := HEI.out; subst h1; exact h0) (by rw [rest_drop, HEI.out, Bool.eq_false_iff]; intro x; have := (HPRE.out.1 x).1; cases this)), rfl⟩
              · cases c32
                · go_wp2_with fail
                  go_roundg (n - (e + 1))
                  case measure => omega
                  case rel => exact ⟨i + 1, false, by have := HEI.out; go_num, rfl, by have := HEI.out; omega, by have := HEI.out; omega, Lib.hid (HI.out.outside (by rw [rest_len HL.out]; have := HEI.out; omega) (by rw [rest_get HL.out (by have := HEI.out; omega)]; have h0 := HN39.out; have h1 := HEI.out; subst h1; exact h0) (by rw [rest_drop, HEI.out, Bool.eq_false_iff]; intro x; have := (HPRE.out.1 x).2; cases this)), rfl⟩
                · have HE : Hid (EndAt s n a e) := Lib.hid (by rw [← HEI.out]; exact endAt_sep HL.out (by have := HEI.out; omega) HI.out (by rw [HEI.out]; exact HPRE.out.2 ⟨rfl, rfl⟩))
                  obtain ⟨t, ht⟩ : ∃ t, s.extract a e = t := ⟨_, rfl⟩
                  have HTX := Lib.hid ht
                  have hts : t.size ≤ 3000 := by rw [← ht, ByteArray.size_extract]; have := HNN.out; omega
                  have hae : a ≤ e := HE.out.le
                  cases hv : parV t.data.toList with
                  | none =>
                    have hcon := fun W => rparse_n t (by omega) hv W
                    have HN : Hid (rowP s.data.toList = none) := Lib.hid (by
                      rw [HROW.out, ← HG.out, goR_end_bad HL.out ha HE.out (by rw [HTX.out]; exact hv)])
                    clear hv
                    go_wp2_with fail
                    refine (hcon _).mono ?_
                    rintro e' w2 ⟨rfl, hb2⟩
                    have HB2 := Lib.hid (BW.out.trans (hb2.mono BW.out.size))
                    clear hcon hb2
                    go_wp2_with fail
                    go_ret2
                    exact ⟨_, _, rfl, by rw [HN.out]; exact ⟨rfl, rfl⟩, HB2.out.trans ((Below.allocs _ _).mono HB2.out.size)⟩
                  | some v =>
                    have hcon := fun W => rparse_y t (by omega) v hv W
                    obtain ⟨j, hj⟩ : ∃ j, k = j + 1 := ⟨k - 1, by omega⟩
                    have HM : Hid (goR (j + 1) (acc ++ [v]) (restL s.data.toList n (e + 2)) = goR (n + 1) [] (restL s.data.toList n 1)) := Lib.hid (by
                      rw [← HG.out, hj, goR_end_more HL.out ha HE.out (by rw [HTX.out]; exact hv)])
                    have HWF := Lib.hid (parV_wf hv)
                    clear hv
                    go_wp2_with fail
                    refine (hcon _).mono ?_
                    rintro e' w2 ⟨rfl, hb2⟩
                    obtain ⟨V, gb, hV, hgb, BX, hbV, hsV⟩ := boxX w2 v
                    have hbw := hb2.mono BW.out.size
                    have HBV := Lib.hid ((BW.out.trans hbw).trans (hbV.mono (BW.out.trans hbw).size))
                    have HOV := Lib.hid (own_below (own_below OW.out.1 hb2) hbV)
                    obtain ⟨s', W', hrun, hO', hB', -, -⟩ := app_run (W := V.alloc (.cells #[.int .u8 v.k, .int .i64 v.n, .int .i64 v.u, .string v.t] 25)) (m := [v]) (Nat.le_trans HBV.out.size (Below.allocs V (.cells #[.int .u8 v.k, .int .i64 v.n, .int .i64 v.u, .string v.t] 25)).size) (own_below HOV.out (Below.allocs V (.cells #[.int .u8 v.k, .int .i64 v.n, .int .i64 v.u, .string v.t] 25))) (new1 V v HWF.out) (by have := OW.out.2.1; simp; omega) OW.out.2.2
                    have hvs : V.heap.size = gb + 1 := hsV
                    rw [hvs] at hrun
                    have HRUN := Lib.hid hrun
                    have HO' := Lib.hid hO'
                    have HB' := Lib.hid (HBV.out.trans (((Below.allocs V (.cells #[.int .u8 v.k, .int .i64 v.n, .int .i64 v.u, .string v.t] 25)).mono HBV.out.size).trans (hB'.mono (Nat.le_refl _))))
                    obtain ⟨x0, x1, x2, x3, x4⟩ := BX
                    clear hcon hb2 hbV hbw hrun hO' hB' hvs
                    go_wp2_with (at_builtin; refine append_stepW rfl _ _ 35 rfl _ _ _ _ rfl rfl HRUN.out ?_)
                    go_roundg (n + 2 - (e + 2))
                    case measure => omega
                    case rel => exact ⟨e + 2, j, acc ++ [v], by go_num, by omega, by omega, Nat.le_refl _, by omega, Lib.hid ⟨HO'.out, by have := OW.out.2.1; simp; omega, fun x hx => by
                      rcases List.mem_append.1 hx with hx | hx
                      · exact OW.out.2.2 x hx
                      · simp at hx; rw [hx]; exact HWF.out⟩, HM, HB'⟩
            · go_wp2_with fail
              go_roundg (n - (e + 1))
              case measure => omega
              case rel => exact ⟨i + 1, true, by have := HEI.out; go_num, rfl, by have := HEI.out; omega, by have := HEI.out; omega, Lib.hid (HI.out.inside (by rw [rest_len HL.out]; have := HEI.out; omega) (by rw [rest_get HL.out (by have := HEI.out; omega)]; have h0 := HN39.out; have h1 := HEI.out; subst h1; exact h0)), rfl⟩
          · have HY39 : Hid (s.data.toList[e]'(by rw [HL.out]; omega) = 39) := Lib.hid (H39.out.2 rfl)
            have hc44 : c44 = false := by
              cases c44
              · rfl
              · have x := H44.out.2 rfl
                rw [HY39.out] at x
                cases x
            subst hc44
            cases q
            · go_wp2_with fail
              go_roundg (n - (e + 1))
              case measure => omega
              case rel => exact ⟨i + 1, true, by have := HEI.out; go_num, rfl, by have := HEI.out; omega, by have := HEI.out; omega, Lib.hid (HI.out.quote (by rw [rest_len HL.out]; have := HEI.out; omega) (by rw [rest_get HL.out (by have := HEI.out; omega)]; have h0 := HY39.out; have h1 := HEI.out; subst h1; exact h0)), rfl⟩
            · go_wp2_with fail
              go_roundg (n - (e + 1))
              case measure => omega
              case rel => exact ⟨i + 1, false, by have := HEI.out; go_num, rfl, by have := HEI.out; omega, by have := HEI.out; omega, Lib.hid (HI.out.quote (by rw [rest_len HL.out]; have := HEI.out; omega) (by rw [rest_get HL.out (by have := HEI.out; omega)]; have h0 := HY39.out; have h1 := HEI.out; subst h1; exact h0)), rfl⟩
        · have hiz : ¬ ((a + i : Nat) : Int) < (s.size : Int) - 1 := by omega
          obtain ⟨e, he⟩ : ∃ e, a + i = e := ⟨_, rfl⟩
          have HEI := Lib.hid he
          rw [he] at hiz hi hin hgg2 ⊢
          have hes : e ≤ s.size := by omega
          have hesz : (e : Int) ≤ (s.size : Int) := by omega
          clear he hnz
          have HE : Hid (EndAt s n a e) := Lib.hid (by rw [← HEI.out]; exact endAt_last HL.out (by have := HEI.out; omega) HI.out)
          obtain ⟨t, ht⟩ : ∃ t, s.extract a e = t := ⟨_, rfl⟩
          have HTX := Lib.hid ht
          have hts : t.size ≤ 3000 := by rw [← ht, ByteArray.size_extract]; have := HNN.out; omega
          have hae : a ≤ e := HE.out.le
          cases hv : parV t.data.toList with
          | none =>
            have hcon := fun W => rparse_n t (by omega) hv W
            have HN : Hid (rowP s.data.toList = none) := Lib.hid (by
              rw [HROW.out, ← HG.out, goR_end_bad HL.out ha HE.out (by rw [HTX.out]; exact hv)])
            clear hv
            go_wp2_with fail
            refine (hcon _).mono ?_
            rintro e' w2 ⟨rfl, hb2⟩
            have HB2 := Lib.hid (BW.out.trans (hb2.mono BW.out.size))
            clear hcon hb2
            go_wp2_with fail
            go_ret2
            exact ⟨_, _, rfl, by rw [HN.out]; exact ⟨rfl, rfl⟩, HB2.out.trans ((Below.allocs _ _).mono HB2.out.size)⟩
          | some v =>
            have hcon := fun W => rparse_y t (by omega) v hv W
            obtain ⟨j, hj⟩ : ∃ j, k = j + 1 := ⟨k - 1, by omega⟩
            have HM : Hid (goR (j + 1) (acc ++ [v]) (restL s.data.toList n (e + 2)) = goR (n + 1) [] (restL s.data.toList n 1)) := Lib.hid (by
              rw [← HG.out, hj, goR_end_more HL.out ha HE.out (by rw [HTX.out]; exact hv)])
            have HWF := Lib.hid (parV_wf hv)
            clear hv
            go_wp2_with fail
            refine (hcon _).mono ?_
            rintro e' w2 ⟨rfl, hb2⟩
            obtain ⟨V, gb, hV, hgb, BX, hbV, hsV⟩ := boxX w2 v
            have hbw := hb2.mono BW.out.size
            have HBV := Lib.hid ((BW.out.trans hbw).trans (hbV.mono (BW.out.trans hbw).size))
            have HOV := Lib.hid (own_below (own_below OW.out.1 hb2) hbV)
            obtain ⟨s', W', hrun, hO', hB', -, -⟩ := app_run (W := V.alloc (.cells #[.int .u8 v.k, .int .i64 v.n, .int .i64 v.u, .string v.t] 25)) (m := [v]) (Nat.le_trans HBV.out.size (Below.allocs V (.cells #[.int .u8 v.k, .int .i64 v.n, .int .i64 v.u, .string v.t] 25)).size) (own_below HOV.out (Below.allocs V (.cells #[.int .u8 v.k, .int .i64 v.n, .int .i64 v.u, .string v.t] 25))) (new1 V v HWF.out) (by have := OW.out.2.1; simp; omega) OW.out.2.2
            have hvs : V.heap.size = gb + 1 := hsV
            rw [hvs] at hrun
            have HRUN := Lib.hid hrun
            have HO' := Lib.hid hO'
            have HB' := Lib.hid (HBV.out.trans (((Below.allocs V (.cells #[.int .u8 v.k, .int .i64 v.n, .int .i64 v.u, .string v.t] 25)).mono HBV.out.size).trans (hB'.mono (Nat.le_refl _))))
            obtain ⟨x0, x1, x2, x3, x4⟩ := BX
            clear hcon hb2 hbV hbw hrun hO' hB' hvs
            go_wp2_with (at_builtin; refine append_stepW rfl _ _ 35 rfl _ _ _ _ rfl rfl HRUN.out ?_)
            go_roundg (n + 2 - (e + 2))
            case measure => omega
            case rel => exact ⟨e + 2, j, acc ++ [v], by go_num, by omega, by omega, Nat.le_refl _, by omega, Lib.hid ⟨HO'.out, by have := OW.out.2.1; simp; omega, fun x hx => by
              rcases List.mem_append.1 hx with hx | hx
              · exact OW.out.2.2 x hx
              · simp at hx; rw [hx]; exact HWF.out⟩, HM, HB'⟩
    · have haz : ¬ (a : Int) < (s.size : Int) - 1 := by omega
      clear hnz
      have HM : Hid (goR (n + 1) [] (restL s.data.toList n 1) = some acc) := Lib.hid (by rw [← HG.out, rest_end (by omega), goR_nil])
      obtain ⟨aa, cc, hs4, hsl⟩ := own_sl OW.out.2.2 OW.out.1
      subst hs4
      obtain ⟨p, hp⟩ : ∃ p : ByteArray, ⟨(rowT acc).toArray⟩ = p := ⟨_, rfl⟩
      have hpl : rowT acc = p.data.toList := by rw [← hp]
      obtain ⟨m', em, _, hjl⟩ := goR_text _ _ _ _ HM.out
      rw [List.nil_append] at em
      subst em
      have hjt : (jt acc).length ≤ 100000 := by rw [rest_len HL.out] at hjl; have := HNN.out; omega
      have hcon := fun W (hW : Below wr.heap.size wr W) => rtextr_is aa cc acc.length acc p rfl (by have := OW.out.2.1; have := HNN.out; omega) hjt hpl W (hsl.below hW)
      have HP := Lib.hid hpl
      obtain ⟨z, hz2⟩ : ∃ z, (p.toList == s.toList) = z := ⟨_, rfl⟩
      have HZ := Lib.hid hz2
      clear hsl hp hpl hjl hjt
      go_wp2_with fail
      refine (hcon _ (Below.refl _ _)).mono ?_
      rintro e' w2 ⟨rfl, hb2⟩
      have HO2 := Lib.hid (own_below OW.out.1 hb2)
      have HB2 := Lib.hid (BW.out.trans (hb2.mono BW.out.size))
      clear hcon hb2
      cases z
      · have HN : Hid (rowP s.data.toList = none) := Lib.hid (by
          rw [HROW.out, HM.out]
          simp only
          rw [if_neg]
          intro e
          rw [HP.out] at e
          have h2 := HZ.out
          rw [ByteArray.toList_eq, ByteArray.toList_eq, e] at h2
          simp at h2)
        go_wp2_with fail
        go_ret2
        exact ⟨_, _, rfl, by rw [HN.out]; exact ⟨rfl, rfl⟩, HB2.out⟩
      · have HN : Hid (rowP s.data.toList = some acc) := Lib.hid (by
          rw [HROW.out, HM.out]
          simp only
          rw [if_pos]
          have h2 := HZ.out
          rw [ByteArray.toList_eq, ByteArray.toList_eq, beq_iff_eq] at h2
          rw [HP.out]
          exact h2)
        go_wp2_with fail
        go_ret2
        exact ⟨_, _, rfl, by rw [HN.out]; exact ⟨rfl, HO2.out⟩, HB2.out⟩

end Go.Proofs.YtoglaibcmfjclaaDoor
