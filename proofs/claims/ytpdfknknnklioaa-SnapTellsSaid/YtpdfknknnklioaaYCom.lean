/-
  Commit, Abort, Copy, a step: walked (stage 9).
-/
import Derived.Test.YtpdfknknnklioaaYEnd
namespace Go.Proofs.Ytpdfknknnklioaa
open Go.RowKit
set_option linter.unusedVariables false

def Tb.finT (T : Tb) (id : Int) (s : Nat) : Tb := if T.err id = 0 then T.fin id.toNat s else T

theorem end_is (w : World) (t : Nat) (T : Tb) (F : Nat → Prop) (hn : T.n ≤ 1000) (id : Int) (s : Nat) (hi : I64 id) (hs2 : 2 ≤ s) (hs3 : s ≤ 3) (h : Is w t T F) :
    Calls Try.prog 39 #[ptrV t, .int .i64 id, .int .u8 s] w fun x w' => x = .returned (.int .i64 (T.err id)) ∧ Is w' t (T.finT id s) F ∧ Touch F w w' := by
  unfold Tb.finT
  by_cases he : T.err id = 0
  · obtain ⟨h1, h2, h3⟩ := Tb.err_ok he
    obtain ⟨k, rfl⟩ : ∃ k : Nat, id = (k : Int) + 1 := ⟨(id - 1).toNat, by omega⟩
    rw [he, if_pos rfl]
    rw [show ((k : Int) + 1).toNat = k + 1 by omega] at h3 ⊢
    exact end_ok w t T F hn k s (by omega) h3 hs2 hs3 h
  · rw [if_neg he]
    refine (end_no w t T F id s hi _ rfl he h).mono ?_
    rintro e w' ⟨rfl, hb⟩
    exact ⟨rfl, h.below hb, Touch.of_below hb⟩

theorem abort_is (w : World) (t : Nat) (T : Tb) (F : Nat → Prop) (hn : T.n ≤ 1000) (id : Int) (hi : I64 id) (h : Is w t T F) :
    Calls Try.prog 24 #[ptrV t, .int .i64 id] w fun x w' => x = .returned (.int .i64 (T.err id)) ∧ Is w' t (T.aboT id) F ∧ Touch F w w' := by
  have he := end_is w t T F hn id 3 hi (by omega) (by omega) h
  have HE := Lib.hid he
  unfold ptrV at HE ⊢
  clear he h
  go_enter Try.func24, Try.ntmps24
  go_wp2_with fail
  refine HE.out.mono ?_
  rintro e w1 ⟨rfl, h1, h2⟩
  have H1 := Lib.hid h1
  have H2 := Lib.hid h2
  clear h1 h2 HE
  go_wp2_with fail
  go_ret
  exact ⟨rfl, H1.out, H2.out⟩

theorem abort_nil (w : World) (id : Int) : Calls Try.prog 24 #[.pointer none, .int .i64 id] w fun x w' => x = .returned (.int .i64 2) ∧ Below w.heap.size w w' := by
  have he := end_nil w id 3
  have HE := Lib.hid he
  clear he
  go_enter Try.func24, Try.ntmps24
  go_wp2_with fail
  refine HE.out.mono ?_
  rintro e w1 ⟨rfl, h1⟩
  have H1 := Lib.hid h1
  clear h1 HE
  go_wp2_with fail
  go_ret
  exact ⟨rfl, H1.out⟩

/-- A number is given. -/
theorem Tab.give {W : World} {t : Nat} {T : Tb} {F : Nat → Prop} (h : Tab W t T F) {k : Nat} (hk : k < T.n) :
    ∃ b c, t < W.heap.size ∧ b < W.heap.size ∧ b ≠ t ∧ W.cell? ⟨t, 0, none⟩ = some (.slice (some ⟨b, 0, none⟩) T.n c) ∧ W.cell? ⟨t, 1, none⟩ = some (.int .i64 T.last) ∧ W.frozen? ⟨t, 1, none⟩ = false ∧ T.n ≤ c ∧ W.cell? ⟨b, k * 5 + 2, none⟩ = some (.int .i64 (T.num (k + 1))) ∧ W.frozen? ⟨b, k * 5 + 2, none⟩ = false ∧
      ((W.setCell ⟨t, 1, none⟩ (.int .i64 ((T.last : Int) + 1))).cell? ⟨t, 0, none⟩ = some (.slice (some ⟨b, 0, none⟩) T.n c) ∧ (W.setCell ⟨t, 1, none⟩ (.int .i64 ((T.last : Int) + 1))).cell? ⟨t, 1, none⟩ = some (.int .i64 ((T.last : Int) + 1))) ∧
      Tab (((W.setCell ⟨t, 1, none⟩ (.int .i64 ((T.last : Int) + 1))).drew).setCell ⟨b, k * 5 + 2, none⟩ (.int .i64 ((T.last : Int) + 1))) t (T.give (k + 1)) F ∧ Touch F W (((W.setCell ⟨t, 1, none⟩ (.int .i64 ((T.last : Int) + 1))).drew).setCell ⟨b, k * 5 + 2, none⟩ (.int .i64 ((T.last : Int) + 1))) := by
  obtain ⟨v, hr⟩ := h.raw
  obtain ⟨b, c, rfl, hnc, hcm, hbl, hat, hfz⟩ := hr.row.at hk
  have hbt := hr.own b rfl
  obtain ⟨h1, h2⟩ := hr.setLast ((T.last : Int) + 1)
  obtain ⟨h3, h4⟩ := h1.drew.set (b := b) rfl hk (show 2 < 5 by omega) (o := k * 5 + 2) rfl (.int .i64 ((T.last : Int) + 1))
  refine ⟨b, c, hr.lit.lt, hbl, hbt.2, hr.lit.cell rfl, hr.lit.cell rfl, hr.lit.fz 1, hnc, hat k hk 2 _ rfl, hfz _, ⟨h1.lit.cell rfl, h1.lit.cell rfl⟩, h3.tab rfl rfl fun j hj => ?_, (h2.trans (Touch.of_below (below_drw _)) (fun _ _ h => h)).trans h4 (fun _ _ h => h)⟩
  unfold updR recT
  by_cases hj : j = k
  · subst hj
    simp only [if_true, List.set, Tb.give, upd_same]
    rfl
  · simp only [if_neg hj, Tb.give, upd_ne _ _ _ (show j + 1 ≠ k + 1 by omega)]

set_option maxRecDepth 100000 in
set_option maxHeartbeats 4000000 in
theorem commit_is (w : World) (t : Nat) (T : Tb) (F : Nat → Prop) (hn : T.n ≤ 1000) (hla : T.last ≤ 1000) (id : Int) (hi : I64 id) (h : Is w t T F) :
    Calls Try.prog 26 #[ptrV t, .int .i64 id] w fun x w' => x = .returned (.int .i64 (T.err id)) ∧ Is w' t (T.comT id) F ∧ Touch F w w' := by
  have mixed : Try.prog.follows Departure.mixedOrders = true := by kernel_rfl
  have he := end_is w t T F hn id 2 hi (by omega) (by omega) h
  have HE := Lib.hid he
  have HOK := Lib.hid h.ok
  have HF := Lib.hid h.lt
  unfold ptrV at HE ⊢
  unfold Tb.finT at HE
  unfold Tb.comT
  clear he h
  by_cases her : T.err id = 0
  · obtain ⟨h1, h2, h3⟩ := Tb.err_ok her
    obtain ⟨k, rfl⟩ : ∃ k : Nat, id = (k : Int) + 1 := ⟨(id - 1).toNat, by omega⟩
    rw [her, if_pos rfl] at HE
    rw [her, if_pos rfl]
    have hk1 : ((k : Int) + 1).toNat = k + 1 := by omega
    rw [hk1] at HE h3 ⊢
    obtain ⟨U, hU⟩ : ∃ U, T.fin (k + 1) 2 = U := ⟨_, rfl⟩
    have hUn : U.n = T.n := by rw [← hU]; rfl
    have hUl : U.last = T.last := by rw [← hU]; rfl
    have hUt : U.top = T.top := by rw [← hU]; rfl
    obtain ⟨tp, htp⟩ : ∃ tp, T.top (k + 1) = tp := ⟨_, rfl⟩
    have hgt : U.g U.top ((k : Int) + 1) = (tp : Int) := by
      rw [Tb.g_in (by rw [hUn]; omega), hUt, hk1, htp]
    have htop := HOK.out.top_in (k + 1) (by omega) (by omega)
    unfold Tb.com
    rw [hU] at HE ⊢
    by_cases hp : T.par (k + 1) = 0
    · rw [if_pos hp]
      have ht0 := HOK.out.top0 (k + 1) (by omega) (by omega) hp
      have htk : (tp : Int) = (k : Int) + 1 := by omega
      have HTK := Lib.hid htk
      clear htop ht0 hp htk
      go_enter Try.func26, Try.ntmps26
      go_wp2_with fail
      refine HE.out.mono ?_
      rintro e w1 ⟨rfl, h4, h5⟩
      have hto := top_is w1 t U F ((k : Int) + 1) hi h4.tab
      rw [hgt, HTK.out] at hto
      unfold ptrV at hto
      have H4 := Lib.hid h4
      have H5 := Lib.hid h5
      have HTO := Lib.hid hto
      clear h4 h5 hto HE
      go_wp2_with fail
      refine HTO.out.mono ?_
      rintro e w2 ⟨rfl, hb2⟩
      have h6 := H4.out.below hb2
      obtain ⟨b, c, d0, d1, d2, d3, d4, d5, d6, d7, d8, d9, hend, htou⟩ := h6.tab.give (k := k) (by rw [hUn]; omega)
      obtain ⟨n, hn9⟩ : ∃ n, U.n = n := ⟨_, rfl⟩
      obtain ⟨la, hla9⟩ : ∃ la, U.last = la := ⟨_, rfl⟩
      rw [hn9] at d3 d6 d9
      rw [hla9] at d4 d9 hend htou
      have HD9 := Lib.hid d9
      have HWR : Hid (wrap64 ((la : Int) + 1) = (la : Int) + 1 ∧ wrap64 (k : Int) = k) := Lib.hid ⟨wr (by omega), wr (by omega)⟩
      have hkn : (k : Int) < n := by omega
      have hk0 : (0 : Int) ≤ k := by omega
      have HEND : Hid (Is (((w2.setCell ⟨t, 1, none⟩ (.int .i64 ((la : Int) + 1))).drew).setCell ⟨b, k * 5 + 2, none⟩ (.int .i64 ((la : Int) + 1))) t (U.give (k + 1)) F) := Lib.hid ⟨h6.ok.give _, hend⟩
      have HTOU := Lib.hid ((H5.out.trans (Touch.of_below hb2) (fun _ _ h => h)).trans htou (fun _ _ h => h))
      have HD7 := Lib.hid (And.intro d7 (And.intro d8 d1))
      obtain ⟨hlw, hkw⟩ := HWR.out
      clear hend htou hb2 h6 H4 H5 HTO d7 d8 d9 hn9 hla9 hUn hUl hUt hgt htp hU her h1 h2 h3 hk1
      go_upto_region 4 with (fail)
      obtain ⟨W3, hW3⟩ : ∃ W3, w2.setCell ⟨t, 1, none⟩ (.int .i64 ((la : Int) + 1)) = W3 := ⟨_, rfl⟩
      have e3 : W3.cell? ⟨t, 0, none⟩ = some (.slice (some ⟨b, 0, none⟩) n c) := by rw [← hW3]; exact HD9.out.1
      have e4 : W3.cell? ⟨t, 1, none⟩ = some (.int .i64 ((la : Int) + 1)) := by rw [← hW3]; exact HD9.out.2
      have HS7 : Hid (W3.cell? ⟨b, k * 5 + 2, none⟩ = some (.int .i64 (U.num (k + 1))) ∧ W3.frozen? ⟨b, k * 5 + 2, none⟩ = false ∧ b < W3.heap.size) := Lib.hid (by
        obtain ⟨d7, d8, d1⟩ := HD7.out
        rw [← hW3]
        refine ⟨?_, ?_, by simpa [World.setCell] using d1⟩
        · rw [World.cell?_setCell_other _ _ _ _ (fun e => d2 (congrArg Addr.block e).symm)]; exact d7
        · rw [World.frozen?_setCell]; exact d8)
      have e0 : t < W3.heap.size := by rw [← hW3]; simpa [World.setCell] using d0
      rw [hW3] at HEND HTOU ⊢
      clear d0 d1 d3 d4 d5 hW3 HD7 HD9
      go_still_tail 10, (by kernel_rfl)
      change wpList _ _ _ _ _ W3.drew
      obtain ⟨s7, s8, s1⟩ := HS7.out
      have s7' : W3.drew.cell? ⟨b, k * 5 + 2, none⟩ = some (.int .i64 (U.num (k + 1))) := s7
      have s8' : W3.drew.frozen? ⟨b, k * 5 + 2, none⟩ = false := s8
      have s1' : b < W3.drew.heap.size := s1
      clear e0 e3 e4 s7 s8 s1 HS7
      generalize W3.drew = W4 at *
      go_wp2_with fail
      go_ret
      exact ⟨rfl, HEND.out, HTOU.out⟩
    · rw [if_neg hp]
      have htk : ¬ (tp : Int) = (k : Int) + 1 := fun e => by
        have : tp = k + 1 := by omega
        rw [htp, this] at htop
        exact hp htop.2.2
      clear htop hp
      go_enter Try.func26, Try.ntmps26
      go_wp2_with fail
      refine HE.out.mono ?_
      rintro e w1 ⟨rfl, h4, h5⟩
      have hto := top_is w1 t U F ((k : Int) + 1) hi h4.tab
      rw [hgt] at hto
      unfold ptrV at hto
      have H4 := Lib.hid h4
      have H5 := Lib.hid h5
      have HTO := Lib.hid hto
      clear h4 h5 hto HE
      go_wp2_with fail
      refine HTO.out.mono ?_
      rintro e w2 ⟨rfl, hb2⟩
      have HEND := Lib.hid (H4.out.below hb2)
      have HTOU := Lib.hid (H5.out.trans (Touch.of_below hb2) (fun _ _ h => h))
      clear hb2 HTO H4 H5
      go_wp2_with fail
      go_ret
      exact ⟨rfl, HEND.out, HTOU.out⟩
  · rw [if_neg her] at HE ⊢
    obtain ⟨x, hx⟩ : ∃ x, T.err id = x := ⟨_, rfl⟩
    rw [hx] at HE her ⊢
    clear hx
    go_enter Try.func26, Try.ntmps26
    go_wp2_with fail
    refine HE.out.mono ?_
    rintro e w1 ⟨rfl, h4, h5⟩
    have H4 := Lib.hid h4
    have H5 := Lib.hid h5
    clear h4 h5 HE
    go_wp2_with fail
    go_ret
    exact ⟨rfl, H4.out, H5.out⟩

theorem commit_nil (w : World) (id : Int) : Calls Try.prog 26 #[.pointer none, .int .i64 id] w fun x w' => x = .returned (.int .i64 2) ∧ Below w.heap.size w w' := by
  have he := end_nil w id 2
  have HE := Lib.hid he
  clear he
  go_enter Try.func26, Try.ntmps26
  go_wp2_with fail
  refine HE.out.mono ?_
  rintro e w1 ⟨rfl, h1⟩
  have H1 := Lib.hid h1
  clear h1 HE
  go_wp2_with fail
  go_ret
  exact ⟨rfl, H1.out⟩

end Go.Proofs.Ytpdfknknnklioaa
