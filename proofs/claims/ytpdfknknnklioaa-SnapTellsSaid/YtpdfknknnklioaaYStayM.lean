/-
  What stays, as mathematics (stage 9).
-/
import Derived.Test.YtpdfknknnklioaaYNumM
import Derived.Test.YtpdfknknnklioaaYPar
namespace Go.Proofs.Ytpdfknknnklioaa
set_option linter.unusedVariables false

theorem Tb.Ok.und_top {T : Tb} (hok : T.Ok) {id : Nat} : ∀ k, Und T.par id k → 1 ≤ k → k ≤ T.n → T.top k = T.top id := by
  intro k hu
  induction hu with
  | self => intro _ _; rfl
  | @up k h0 _ ih =>
    intro h1 hk
    have := hok.par_lt k h1 hk
    rw [hok.top1 k h1 hk h0]
    exact ih (by omega) (by omega)

theorem Tb.Ok.top_st {T : Tb} (hok : T.Ok) : ∀ k, 1 ≤ k → k ≤ T.n → T.st (T.top k) ≤ T.st k := by
  intro j
  induction j using Nat.strongRecOn with
  | ind j ih =>
    intro j1 j2
    by_cases hp : T.par j = 0
    · rw [hok.top0 j j1 j2 hp]; exact Nat.le_refl _
    · rw [hok.top1 j j1 j2 hp]
      have := hok.par_lt j j1 j2
      exact Nat.le_trans (ih _ this (by omega) (by omega)) (hok.mono j j1 j2 hp)

/-- It stands below its top one, or is it. -/
theorem Tb.Ok.top_und {T : Tb} (hok : T.Ok) : ∀ k, 1 ≤ k → k ≤ T.n → Und T.par (T.top k) k := by
  intro j
  induction j using Nat.strongRecOn with
  | ind j ih =>
    intro j1 j2
    by_cases hp : T.par j = 0
    · rw [hok.top0 j j1 j2 hp]; exact .self
    · rw [hok.top1 j j1 j2 hp]
      have := hok.par_lt j j1 j2
      exact .up hp (ih _ this (by omega) (by omega))

theorem cnt_is {T : Tb} (hok : T.Ok) {k : Nat} (h1 : 1 ≤ k) (h2 : k ≤ T.n) : T.cnt (k : Int) = decide (T.st k ≠ 3) := by
  unfold Tb.cnt
  rw [Tb.g_in (by omega), Int.toNat_natCast]
  have := hok.st1 k h1 h2
  have : T.st k = 1 ∨ T.st k = 2 ∨ T.st k = 3 := by omega
  rcases this with e | e | e <;> rw [e] <;> rfl

theorem numI_is {T : Tb} (hok : T.Ok) {k : Nat} (h1 : 1 ≤ k) (h2 : k ≤ T.n) : T.numI (k : Int) = if T.st k = 3 then 0 else (T.num (T.top k) : Int) := by
  unfold Tb.numI
  rw [cnt_is hok h1 h2, Tb.g_in (f := T.top) (by omega), Int.toNat_natCast]
  have := hok.top_in k h1 h2
  rw [Tb.g_in (f := T.num) (by omega), Int.toNat_natCast]
  by_cases h : T.st k = 3
  · rw [if_pos h, h]; rfl
  · rw [if_neg h, if_pos (decide_eq_true h)]

/-- What is Running has no number. -/
theorem numI_run {T : Tb} (hok : T.Ok) (h : T.Nums) {k : Nat} (h1 : 1 ≤ k) (h2 : k ≤ T.n) (hs : T.st k ≠ 2) : T.numI (k : Int) = 0 := by
  rw [numI_is hok h1 h2]
  by_cases h3 : T.st k = 3
  · rw [if_pos h3]
  · rw [if_neg h3]
    have t := hok.top_in k h1 h2
    have := hok.top_st k h1 h2
    have := hok.st1 k h1 h2
    rw [h.run _ t.1 (by omega) t.2.2 (by omega)]
    rfl

/-- What a step does to one that there is. -/
theorem stp_one {T : Tb} (hok : T.Ok) (kind id : Int) {k : Nat} (h1 : 1 ≤ k) (h2 : k ≤ T.n) : (T.stp kind id).top k = T.top k ∧ k ≤ (T.stp kind id).n ∧
    (((T.stp kind id).st k = T.st k) ∨ (kind ≠ 0 ∧ T.err id = 0 ∧ Und T.par id.toNat k ∧ ((kind = 1 ∧ T.st k = 1 ∧ (T.stp kind id).st k = 2) ∨ (kind ≠ 1 ∧ T.st k ≤ 2 ∧ (T.stp kind id).st k = 3)))) := by
  by_cases h0 : kind = 0
  · subst h0
    rw [(begT_eq T id).1]
    unfold Tb.begT
    split
    · exact ⟨upd_ne _ _ _ (by omega), by show k ≤ T.n + 1; omega, .inl (upd_ne _ _ _ (by omega))⟩
    · exact ⟨rfl, h2, .inl rfl⟩
  · by_cases hk : kind = 1
    · rw [(comT_eq T kind id h0 hk).1]
      unfold Tb.comT
      by_cases he : T.err id = 0
      · rw [if_pos he]
        rw [Tb.com_top, Tb.com_n, Tb.com_st]
        refine ⟨rfl, h2, ?_⟩
        rcases Tb.fin_st hok h1 h2 id.toNat 2 with ⟨hu, hl, e⟩ | ⟨_, e⟩
        · have := hok.st1 k h1 h2
          exact .inr ⟨h0, he, hu, .inl ⟨hk, by omega, e⟩⟩
        · exact .inl e
      · rw [if_neg he]; exact ⟨rfl, h2, .inl rfl⟩
    · rw [(aboT_eq T kind id h0 hk).1]
      unfold Tb.aboT
      by_cases he : T.err id = 0
      · rw [if_pos he]
        refine ⟨rfl, h2, ?_⟩
        rcases Tb.fin_st hok h1 h2 id.toNat 3 with ⟨hu, hl, e⟩ | ⟨_, e⟩
        · exact .inr ⟨h0, he, hu, .inr ⟨hk, by omega, e⟩⟩
        · exact .inl e
      · rw [if_neg he]; exact ⟨rfl, h2, .inl rfl⟩

/-- A step changes the numbers of none but one that runs. -/
theorem stp_num {T : Tb} (kind id : Int) {j : Nat} (h1 : 1 ≤ j) (h2 : j ≤ T.n) (hs : T.st j ≠ 1) : (T.stp kind id).num j = T.num j := by
  by_cases h0 : kind = 0
  · subst h0
    rw [(begT_eq T id).1]
    unfold Tb.begT
    split
    · exact upd_ne _ _ _ (by omega)
    · rfl
  · by_cases hk : kind = 1
    · rw [(comT_eq T kind id h0 hk).1]
      unfold Tb.comT
      split
      · next he =>
        have hi := Tb.err_ok he
        unfold Tb.com
        split
        · have hne : j ≠ id.toNat := fun e => by rw [e] at hs; exact hs hi.2.2
          exact upd_ne _ _ _ hne
        · rfl
      · rfl
    · rw [(aboT_eq T kind id h0 hk).1]
      unfold Tb.aboT
      split <;> rfl

/-- A step that is refused leaves the table as it is. -/
theorem stp_no {T : Tb} (kind id : Int) (h : T.stpE kind id ≠ 0) : T.stp kind id = T := by
  unfold Tb.stpE at h
  unfold Tb.stp
  by_cases h0 : kind = 0
  · rw [if_pos h0] at h ⊢
    unfold Tb.begT
    rw [if_neg h]
  · rw [if_neg h0] at h ⊢
    unfold Tb.comT Tb.aboT
    rw [if_neg h, if_neg h]
    split <;> rfl

/-- What has committed stays so. -/
theorem stp_keeps {T : Tb} (hok : T.Ok) (hn : T.Nums) (kind id : Int) {k : Nat} (h1 : 1 ≤ k) (h2 : k ≤ T.n) (hs : T.st k = 2) (h0 : T.numI (k : Int) ≠ 0) : (T.stp kind id).st k = 2 ∧ (T.stp kind id).numI (k : Int) = T.numI (k : Int) := by
  have t := hok.top_in k h1 h2
  have hti := numI_is hok h1 h2
  rw [if_neg (by omega)] at hti
  have htop : T.st (T.top k) = 2 := by
    by_cases e : T.st (T.top k) = 2
    · exact e
    · rw [hti, hn.run _ t.1 (by omega) t.2.2 e] at h0; exact absurd rfl h0
  obtain ⟨e1, e2, e3⟩ := stp_one hok kind id h1 h2
  have hst : (T.stp kind id).st k = 2 := by
    rcases e3 with e | ⟨_, he, hu, _⟩
    · rw [e, hs]
    · have hi := Tb.err_ok he
      have := hok.und_top k hu h1 h2
      have h3 := hok.top_st id.toNat (by omega) (by omega)
      rw [← this, htop, hi.2.2] at h3
      omega
  refine ⟨hst, ?_⟩
  rw [numI_is (hok.stp kind id) h1 e2, if_neg (by omega), hti, e1, stp_num kind id t.1 (by omega) (by omega)]

/-- All that the law asks of one transaction. -/
theorem stay_facts {T : Tb} (hok : T.Ok) (hn : T.Nums) (kind id : Int) (hk : 0 ≤ kind) {k : Nat} (h1 : 1 ≤ k) (h2 : k ≤ T.n) : ∃ (x y : Nat) (na nb tp : Int), T.g T.st (k : Int) = x ∧ (T.stp kind id).g (T.stp kind id).st (k : Int) = y ∧ T.numI (k : Int) = na ∧ (T.stp kind id).numI (k : Int) = nb ∧ T.g T.top (k : Int) = tp ∧ (T.stp kind id).g (T.stp kind id).top (k : Int) = tp ∧
    T.cnt (k : Int) = decide (x ≠ 3) ∧ (T.stp kind id).cnt (k : Int) = decide (y ≠ 3) ∧
    ((x = 1 ∧ y = 1 ∧ na = 0) ∨ (x = 1 ∧ y = 2 ∧ na = 0) ∨ (x = 1 ∧ y = 3 ∧ na = 0) ∨ (x = 2 ∧ y = 2 ∧ na = 0) ∨ (x = 2 ∧ y = 2 ∧ na ≠ 0 ∧ nb = na) ∨ (x = 2 ∧ y = 3 ∧ na = 0 ∧ 2 ≤ kind ∧ (T.stp kind id).g (T.stp kind id).st id = 3 ∧ (T.stp kind id).g (T.stp kind id).top id = tp) ∨ (x = 3 ∧ y = 3 ∧ na = 0)) := by
  have hokU := hok.stp kind id
  obtain ⟨e1, e2, e3⟩ := stp_one hok kind id h1 h2
  have hin : 1 ≤ (k : Int) ∧ (k : Int) ≤ T.n := by omega
  have hinU : 1 ≤ (k : Int) ∧ (k : Int) ≤ (T.stp kind id).n := by omega
  refine ⟨T.st k, (T.stp kind id).st k, T.numI (k : Int), (T.stp kind id).numI (k : Int), T.top k, ?_, ?_, rfl, rfl, ?_, ?_, cnt_is hok h1 h2, cnt_is hokU h1 e2, ?_⟩
  · rw [Tb.g_in hin, Int.toNat_natCast]
  · rw [Tb.g_in hinU, Int.toNat_natCast]
  · rw [Tb.g_in hin, Int.toNat_natCast]
  · rw [Tb.g_in hinU, Int.toNat_natCast, e1]
  · have hst := hok.st1 k h1 h2
    have hrun : T.st k ≠ 2 → T.numI (k : Int) = 0 := numI_run hok hn h1 h2
    by_cases h20 : T.st k = 2
    · by_cases hn0 : T.numI (k : Int) = 0
      · rcases e3 with e | ⟨k0, he, hu, ⟨_, e, _⟩ | ⟨k1, _, e⟩⟩
        · exact .inr (.inr (.inr (.inl ⟨h20, by rw [e, h20], hn0⟩)))
        · omega
        · refine .inr (.inr (.inr (.inr (.inr (.inl ⟨h20, e, hn0, by omega, ?_, ?_⟩)))))
          · have hi := Tb.err_ok he
            obtain ⟨f1, f2, f3⟩ := stp_one hok kind id (k := id.toNat) (by omega) (by omega)
            rw [Tb.g_in (by omega)]
            rcases f3 with f | ⟨_, _, _, ⟨f, _⟩ | ⟨_, _, f⟩⟩
            · rw [(aboT_eq T kind id k0 k1).1] at f
              unfold Tb.aboT at f
              rw [if_pos he] at f
              rcases Tb.fin_st hok (k := id.toNat) (by omega) (by omega) id.toNat 3 with ⟨_, _, g⟩ | ⟨g, _⟩
              · rw [g, hi.2.2] at f; omega
              · exact absurd ⟨.self, by rw [hi.2.2]; omega⟩ g
            · exact absurd f k1
            · rw [f]; rfl
          · have hi := Tb.err_ok he
            obtain ⟨f1, f2, f3⟩ := stp_one hok kind id (k := id.toNat) (by omega) (by omega)
            rw [Tb.g_in (by omega), f1, hok.und_top k hu h1 h2]
      · obtain ⟨f1, f2⟩ := stp_keeps hok hn kind id h1 h2 h20 hn0
        exact .inr (.inr (.inr (.inr (.inl ⟨h20, f1, hn0, f2⟩))))
    · have hn0 := hrun h20
      rcases e3 with e | ⟨k0, he, hu, ⟨_, e, f⟩ | ⟨_, e, f⟩⟩
      · by_cases hs1 : T.st k = 1
        · exact .inl ⟨hs1, by rw [e, hs1], hn0⟩
        · exact .inr (.inr (.inr (.inr (.inr (.inr ⟨by omega, by omega, hn0⟩)))))
      · exact .inr (.inl ⟨e, f, hn0⟩)
      · exact .inr (.inr (.inl ⟨by omega, f, hn0⟩))

/-- The same, in integers. -/
theorem stay_int {T : Tb} (hok : T.Ok) (hn : T.Nums) (kind id : Int) (hk : 0 ≤ kind) {k : Nat} (h1 : 1 ≤ k) (h2 : k ≤ T.n) : ∃ (x y na nb tp : Int) (ca cb : Bool), T.g T.st (k : Int) = x ∧ (T.stp kind id).g (T.stp kind id).st (k : Int) = y ∧ T.numI (k : Int) = na ∧ (T.stp kind id).numI (k : Int) = nb ∧ T.g T.top (k : Int) = tp ∧ (T.stp kind id).g (T.stp kind id).top (k : Int) = tp ∧
    T.cnt (k : Int) = ca ∧ (T.stp kind id).cnt (k : Int) = cb ∧
    ((x = 1 ∧ na = 0 ∧ ca = true) ∨ (x = 2 ∧ y = 2 ∧ na = 0 ∧ ca = true) ∨ (x = 2 ∧ y = 2 ∧ na ≠ 0 ∧ nb = na ∧ ca = true) ∨ (x = 2 ∧ y = 3 ∧ na = 0 ∧ ca = true ∧ 2 ≤ kind ∧ (T.stp kind id).g (T.stp kind id).st id = 3 ∧ (T.stp kind id).g (T.stp kind id).top id = tp) ∨ (x = 3 ∧ y = 3 ∧ na = 0 ∧ ca = false ∧ cb = false)) := by
  obtain ⟨x, y, na, nb, tp, q1, q2, q3, q4, q5, q6, q7, q8, h⟩ := stay_facts hok hn kind id hk h1 h2
  refine ⟨x, y, na, nb, tp, _, _, q1, q2, q3, q4, q5, q6, q7, q8, ?_⟩
  rcases h with ⟨rfl, rfl, h⟩ | ⟨rfl, rfl, h⟩ | ⟨rfl, rfl, h⟩ | ⟨rfl, rfl, h⟩ | ⟨rfl, rfl, h, h'⟩ | ⟨rfl, rfl, h, h'⟩ | ⟨rfl, rfl, h⟩
  · exact .inl ⟨rfl, h, rfl⟩
  · exact .inl ⟨rfl, h, rfl⟩
  · exact .inl ⟨rfl, h, rfl⟩
  · exact .inr (.inl ⟨rfl, rfl, h, rfl⟩)
  · exact .inr (.inr (.inl ⟨rfl, rfl, h, h', rfl⟩))
  · exact .inr (.inr (.inr (.inl ⟨rfl, rfl, h, rfl, h'⟩)))
  · exact .inr (.inr (.inr (.inr ⟨rfl, rfl, h, rfl, rfl⟩)))

/-- Behind Abort, or Commit: what the law asks of one transaction. -/
theorem back_facts {T : Tb} (hok : T.Ok) (hn : T.Nums) (com : Bool) (id : Int) (he : T.err id = 0) {U : Tb} (hU : (if com = true then T.comT id else T.aboT id) = U) {k : Nat} (h1 : 1 ≤ k) (h2 : k ≤ T.n) :
    (¬ Und T.par id.toNat k ∧ U.g U.st (k : Int) = T.g T.st (k : Int) ∧ U.g U.top (k : Int) = T.g T.top (k : Int) ∧ U.numI (k : Int) = T.numI (k : Int) ∧ U.cnt (k : Int) = T.cnt (k : Int)) ∨
    (Und T.par id.toNat k ∧ com = false ∧ U.g U.st (k : Int) = 3 ∧ U.numI (k : Int) = 0 ∧ U.cnt (k : Int) = false) ∨
    (Und T.par id.toNat k ∧ com = true ∧ U.cnt (k : Int) = T.cnt (k : Int) ∧ ((T.cnt (k : Int) = true ∧ U.g U.st (k : Int) = 2) ∨ (T.cnt (k : Int) = false ∧ U.g U.st (k : Int) = 3)) ∧ (T.par id.toNat = 0 → T.cnt (k : Int) = true → U.numI (k : Int) = U.last) ∧ (T.par id.toNat ≠ 0 → U.numI (k : Int) = 0)) := by
  have hi := Tb.err_ok he
  have i1 : 1 ≤ id.toNat := by omega
  have i2 : id.toNat ≤ T.n := by omega
  have hst := hok.st1 k h1 h2
  have kin : 1 ≤ (k : Int) ∧ (k : Int) ≤ T.n := by omega
  have t := hok.top_in k h1 h2
  by_cases hu : Und T.par id.toNat k
  · cases com with
    | false =>
      refine .inr (.inl ⟨hu, rfl, ?_⟩)
      have e : T.aboT id = U := by simpa using hU
      unfold Tb.aboT at e
      rw [if_pos he] at e
      subst e
      have hs3 : (T.fin id.toNat 3).st k = 3 := by
        rcases Tb.fin_st hok h1 h2 id.toNat 3 with ⟨_, _, g⟩ | ⟨g, g'⟩
        · exact g
        · have : ¬ T.st k < 3 := fun h => g ⟨hu, h⟩
          rw [g']; omega
      have hokU : (T.fin id.toNat 3).Ok := hok.fin (by omega)
      refine ⟨?_, ?_, ?_⟩
      · rw [Tb.g_in (show 1 ≤ (k : Int) ∧ (k : Int) ≤ (T.fin id.toNat 3).n from kin), Int.toNat_natCast, hs3]; rfl
      · rw [numI_is hokU h1 h2, if_pos hs3]
      · rw [cnt_is hokU h1 h2, hs3]; rfl
    | true =>
      refine .inr (.inr ⟨hu, rfl, ?_⟩)
      have e : T.comT id = U := by simpa using hU
      unfold Tb.comT at e
      rw [if_pos he] at e
      have hokU : U.Ok := by rw [← e]; exact hok.com _
      have en : U.n = T.n := by rw [← e, Tb.com_n]
      have est : U.st = (T.fin id.toNat 2).st := by rw [← e, Tb.com_st]
      have etop : U.top = T.top := by rw [← e, Tb.com_top]
      have kinU : 1 ≤ (k : Int) ∧ (k : Int) ≤ U.n := by rw [en]; exact kin
      have hsk : (T.st k ≠ 3 ∧ U.st k = 2) ∨ (T.st k = 3 ∧ U.st k = 3) := by
        rw [est]
        rcases Tb.fin_st hok h1 h2 id.toNat 2 with ⟨_, g, g'⟩ | ⟨g, g'⟩
        · exact .inl ⟨by omega, g'⟩
        · have : ¬ T.st k < 2 := fun h => g ⟨hu, h⟩
          rw [g']; omega
      have hc : U.cnt (k : Int) = T.cnt (k : Int) := by
        rw [cnt_is hokU h1 (by omega), cnt_is hok h1 h2]
        rcases hsk with ⟨g, g'⟩ | ⟨g, g'⟩
        · rw [g']; simp [g]
        · rw [g', g]
      refine ⟨hc, ?_, fun hp hct => ?_, fun hp => ?_⟩
      · rw [Tb.g_in kinU, Int.toNat_natCast, cnt_is hok h1 h2]
        rcases hsk with ⟨g, g'⟩ | ⟨g, g'⟩
        · exact .inl ⟨decide_eq_true g, by rw [g']; rfl⟩
        · exact .inr ⟨by rw [g]; rfl, by rw [g']; rfl⟩
      · rw [cnt_is hok h1 h2] at hct
        have hct' := of_decide_eq_true hct
        have hs2 : U.st k = 2 := by omega
        rw [numI_is hokU h1 (by omega), if_neg (by omega), etop, hok.und_top k hu h1 h2, hok.top0 id.toNat i1 i2 hp]
        unfold Tb.com at e
        rw [if_pos hp] at e
        rw [← e]
        show ((upd _ _ _ _ : Nat) : Int) = _
        rw [upd_same]
        rfl
      · rw [numI_is hokU h1 (by omega), etop]
        split
        · rfl
        · unfold Tb.com at e
          rw [if_neg hp] at e
          have enum : U.num = T.num := by rw [← e]; rfl
          rw [enum]
          have h5 := hok.und_top k hu h1 h2
          have h6 := hok.top_st id.toNat i1 i2
          rw [← h5, hi.2.2] at h6
          rw [hn.run _ t.1 (by omega) t.2.2 (by omega)]
          rfl
  · refine .inl ⟨hu, ?_⟩
    have hne : T.top k ≠ id.toNat := fun h => hu (by rw [← h]; exact hok.top_und k h1 h2)
    have key : U.Ok ∧ U.n = T.n ∧ U.st k = T.st k ∧ U.top = T.top ∧ U.num (T.top k) = T.num (T.top k) := by
      cases com with
      | false =>
        have e : T.aboT id = U := by simpa using hU
        unfold Tb.aboT at e
        rw [if_pos he] at e
        subst e
        refine ⟨hok.fin (by omega), rfl, ?_, rfl, rfl⟩
        rcases Tb.fin_st hok h1 h2 id.toNat 3 with ⟨g, _⟩ | ⟨_, g⟩
        · exact absurd g hu
        · exact g
      | true =>
        have e : T.comT id = U := by simpa using hU
        unfold Tb.comT at e
        rw [if_pos he] at e
        refine ⟨by rw [← e]; exact hok.com _, by rw [← e, Tb.com_n], ?_, by rw [← e, Tb.com_top], ?_⟩
        · rw [← e, Tb.com_st]
          rcases Tb.fin_st hok h1 h2 id.toNat 2 with ⟨g, _⟩ | ⟨_, g⟩
          · exact absurd g hu
          · exact g
        · rw [← e]
          unfold Tb.com
          split
          · exact upd_ne _ _ _ hne
          · rfl
    obtain ⟨k1, k2, k3, k4, k5⟩ := key
    have kinU : 1 ≤ (k : Int) ∧ (k : Int) ≤ U.n := by rw [k2]; exact kin
    refine ⟨?_, ?_, ?_, ?_⟩
    · rw [Tb.g_in kinU, Tb.g_in kin, Int.toNat_natCast, k3]
    · rw [Tb.g_in kinU, Tb.g_in kin, k4]
    · rw [numI_is k1 h1 (by omega), numI_is hok h1 h2, k3, k4, k5]
    · rw [cnt_is k1 h1 (by omega), cnt_is hok h1 h2, k3]

end Go.Proofs.Ytpdfknknnklioaa
