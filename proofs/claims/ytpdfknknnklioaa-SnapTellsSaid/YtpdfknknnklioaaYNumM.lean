/-
  The numbers of commits, as mathematics (stage 9).
-/
import Derived.Test.YtpdfknknnklioaaYLaw
namespace Go.Proofs.Ytpdfknknnklioaa
open Go.RowKit
set_option linter.unusedVariables false

/-- What holds of numbers. -/
structure Tb.Nums (T : Tb) : Prop where
  sub : ∀ k, 1 ≤ k → k ≤ T.n → T.par k ≠ 0 → T.num k = 0
  don : ∀ k, 1 ≤ k → k ≤ T.n → T.par k = 0 → T.st k = 2 → 1 ≤ T.num k ∧ T.num k ≤ T.last
  run : ∀ k, 1 ≤ k → k ≤ T.n → T.par k = 0 → T.st k ≠ 2 → T.num k = 0
  inj : ∀ k j, 1 ≤ k → k ≤ T.n → 1 ≤ j → j ≤ T.n → T.num k = T.num j → T.num k ≠ 0 → k = j
  sur : ∀ m, 1 ≤ m → m ≤ T.last → ∃ k, 1 ≤ k ∧ k ≤ T.n ∧ T.num k = m

theorem Tb.new_nums : Tb.new.Nums := by
  constructor <;> intros <;> simp [Tb.new] at * <;> omega

theorem Tb.Nums.le {T : Tb} (h : T.Nums) {k : Nat} (h1 : 1 ≤ k) (h2 : k ≤ T.n) : T.num k ≤ T.last := by
  by_cases hp : T.par k = 0
  · by_cases hs : T.st k = 2
    · exact (h.don k h1 h2 hp hs).2
    · rw [h.run k h1 h2 hp hs]; exact Nat.zero_le _
  · rw [h.sub k h1 h2 hp]; exact Nat.zero_le _

theorem Tb.Nums.add {T : Tb} (h : T.Nums) {p : Nat} (hp : p ≤ T.n) : (T.add p).Nums := by
  have e1 : ∀ k, k ≤ T.n → (T.add p).par k = T.par k := fun k hk => upd_ne _ _ _ (by omega)
  have e2 : ∀ k, k ≤ T.n → (T.add p).st k = T.st k := fun k hk => upd_ne _ _ _ (by omega)
  have e3 : ∀ k, k ≤ T.n → (T.add p).num k = T.num k := fun k hk => upd_ne _ _ _ (by omega)
  have e3' : (T.add p).num (T.n + 1) = 0 := upd_same _ _ _
  have e2' : (T.add p).st (T.n + 1) = 1 := upd_same _ _ _
  have cs : ∀ k, k ≤ (T.add p).n → k ≤ T.n ∨ k = T.n + 1 := fun k hk => by have : k ≤ T.n + 1 := hk; omega
  refine ⟨fun k h1 hk h0 => ?_, fun k h1 hk h0 hs => ?_, fun k h1 hk h0 hs => ?_, fun k j h1 hk h2 hj he h0 => ?_, fun m h1 hm => ?_⟩
  · rcases cs k hk with hk | rfl
    · rw [e1 k hk] at h0; rw [e3 k hk]; exact h.sub k h1 hk h0
    · exact e3'
  · rcases cs k hk with hk | rfl
    · rw [e1 k hk] at h0; rw [e2 k hk] at hs; rw [e3 k hk]; exact h.don k h1 hk h0 hs
    · rw [e2'] at hs; omega
  · rcases cs k hk with hk | rfl
    · rw [e1 k hk] at h0; rw [e2 k hk] at hs; rw [e3 k hk]; exact h.run k h1 hk h0 hs
    · exact e3'
  · rcases cs k hk with hk | rfl
    · rcases cs j hj with hj | rfl
      · rw [e3 k hk] at he h0; rw [e3 j hj] at he; exact h.inj k j h1 hk h2 hj he h0
      · rw [e3'] at he; exact absurd he h0
    · exact absurd e3' h0
  · obtain ⟨k, h2, h3, h4⟩ := h.sur m h1 hm
    exact ⟨k, h2, by show k ≤ T.n + 1; omega, by rw [e3 k h3]; exact h4⟩

/-- A state that is not Done comes to no number; one that is Done stays. -/
theorem Tb.Nums.fin {T : Tb} (hok : T.Ok) (h : T.Nums) {id s : Nat} (h1 : 1 ≤ id) (h2 : id ≤ T.n) (hs : T.st id = 1) (hs3 : s = 3 ∨ (s = 2 ∧ T.par id ≠ 0)) : (T.fin id s).Nums := by
  have key : ∀ k, 1 ≤ k → k ≤ T.n → T.par k = 0 → ((T.fin id s).st k = 2 ↔ T.st k = 2) := fun k k1 k2 hp => by
    rcases Tb.fin_st hok k1 k2 id s with ⟨hu, hl, e⟩ | ⟨_, e⟩
    · rcases hu.cases' with rfl | ⟨h0, _⟩
      · rw [e]
        rcases hs3 with rfl | ⟨rfl, hp2⟩
        · omega
        · exact absurd hp hp2
      · exact absurd hp h0
    · rw [e]
  exact ⟨h.sub, fun k k1 k2 hp hst => h.don k k1 k2 hp ((key k k1 k2 hp).1 hst), fun k k1 k2 hp hst => h.run k k1 k2 hp (fun e => hst ((key k k1 k2 hp).2 e)), h.inj, h.sur⟩

theorem Tb.Nums.com {T : Tb} (hok : T.Ok) (h : T.Nums) {id : Nat} (h1 : 1 ≤ id) (h2 : id ≤ T.n) (hs : T.st id = 1) : (T.com id).Nums := by
  unfold Tb.com
  by_cases hp : T.par id = 0
  · rw [if_pos hp]
    have hid0 := h.run id h1 h2 hp (by omega)
    have hle := fun k k1 k2 => h.le (k := k) k1 k2
    have st1 : ∀ k, 1 ≤ k → k ≤ T.n → T.par k = 0 → k ≠ id → (((T.fin id 2).give id).st k = 2 ↔ T.st k = 2) := fun k k1 k2 hk hne => by
      show (T.fin id 2).st k = 2 ↔ _
      rcases Tb.fin_st hok k1 k2 id 2 with ⟨hu, hl, e⟩ | ⟨_, e⟩
      · rcases hu.cases' with rfl | ⟨h0, _⟩
        · exact absurd rfl hne
        · exact absurd hk h0
      · rw [e]
    have st2 : ((T.fin id 2).give id).st id = 2 := by
      show (T.fin id 2).st id = 2
      rcases Tb.fin_st hok h1 h2 id 2 with ⟨_, _, e⟩ | ⟨hn, _⟩
      · exact e
      · exact absurd ⟨.self, by omega⟩ hn
    have n1 : ((T.fin id 2).give id).num id = T.last + 1 := upd_same _ _ _
    have n2 : ∀ k, k ≠ id → ((T.fin id 2).give id).num k = T.num k := fun k hk => upd_ne _ _ _ hk
    have el : ((T.fin id 2).give id).last = T.last + 1 := rfl
    refine ⟨fun k k1 k2 h0 => ?_, fun k k1 k2 h0 hst => ?_, fun k k1 k2 h0 hst => ?_, fun k j k1 k2 j1 j2 he h0 => ?_, fun m m1 m2 => ?_⟩
    · have hne : k ≠ id := fun e => by rw [e] at h0; exact h0 hp
      rw [n2 k hne]; exact h.sub k k1 k2 h0
    · by_cases hne : k = id
      · rw [hne, n1, el]; omega
      · rw [n2 k hne, el]
        have := h.don k k1 k2 h0 ((st1 k k1 k2 h0 hne).1 hst)
        omega
    · have hne : k ≠ id := fun e => by rw [e] at hst; exact hst st2
      rw [n2 k hne]; exact h.run k k1 k2 h0 (fun e => hst ((st1 k k1 k2 h0 hne).2 e))
    · by_cases hk : k = id
      · by_cases hj : j = id
        · rw [hk, hj]
        · rw [hk, n1, n2 j hj] at he
          have := hle j j1 j2; omega
      · by_cases hj : j = id
        · rw [hj, n1, n2 k hk] at he
          have := hle k k1 k2; omega
        · rw [n2 k hk] at he h0; rw [n2 j hj] at he
          exact h.inj k j k1 k2 j1 j2 he h0
    · rw [el] at m2
      by_cases hm : m = T.last + 1
      · exact ⟨id, h1, h2, by rw [n1, hm]⟩
      · obtain ⟨k, k1, k2, k3⟩ := h.sur m m1 (by omega)
        have hne : k ≠ id := fun e => by rw [e, hid0] at k3; omega
        exact ⟨k, k1, k2, by rw [n2 k hne]; exact k3⟩
  · rw [if_neg hp]
    exact h.fin hok h1 h2 hs (.inr ⟨rfl, hp⟩)

theorem Tb.Nums.stp {T : Tb} (hok : T.Ok) (h : T.Nums) (kind id : Int) : (T.stp kind id).Nums := by
  unfold Tb.stp
  split
  · unfold Tb.begT
    split
    · next he =>
      rcases Tb.begE_ok he with rfl | ⟨h1, h2, _⟩
      · exact h.add (Nat.zero_le _)
      · exact h.add (by omega)
    · exact h
  · split
    · unfold Tb.comT
      split
      · next he =>
        obtain ⟨h1, h2, h3⟩ := Tb.err_ok he
        exact h.com hok (by omega) (by omega) h3
      · exact h
    · unfold Tb.aboT
      split
      · next he =>
        obtain ⟨h1, h2, h3⟩ := Tb.err_ok he
        exact h.fin hok (by omega) (by omega) h3 (.inl rfl)
      · exact h

theorem Tb.Nums.runs {T : Tb} (hok : T.Ok) (h : T.Nums) (l : List Stp) : (T.run l).Nums := by
  induction l generalizing T with
  | nil => exact h
  | cons x l ih => exact ih (hok.stp _ _) (h.stp hok _ _)

/-! ### What the law asks -/

/-- A number is that of its top one; there is one just if it counts, and its top one is Done. -/
theorem num_facts {T : Tb} (hok : T.Ok) (h : T.Nums) {k : Nat} (k1 : 1 ≤ k) (k2 : k ≤ T.n) : ∃ v : Nat, T.numI (k : Int) = v ∧ v ≤ T.last ∧ (0 < v → T.numI (T.top k : Int) = v) ∧ (0 < v ↔ (T.cnt (k : Int) = true ∧ T.st (T.top k) = 2)) ∧ (T.par k = 0 → v = T.num k) := by
  have hkn : 1 ≤ (k : Int) ∧ (k : Int) ≤ T.n := by omega
  obtain ⟨t1, t2, t3⟩ := hok.top_in k k1 k2
  have htn : 1 ≤ (T.top k : Int) ∧ (T.top k : Int) ≤ T.n := by omega
  have est : T.g T.st (k : Int) = T.st k := by rw [Tb.g_in hkn, Int.toNat_natCast]
  have est2 : T.g T.st (T.top k : Int) = T.st (T.top k) := by rw [Tb.g_in htn, Int.toNat_natCast]
  have etop : T.g T.top (k : Int) = T.top k := by rw [Tb.g_in hkn, Int.toNat_natCast]
  have etop2 : T.g T.top (T.top k : Int) = T.top k := by rw [Tb.g_in htn, Int.toNat_natCast, hok.top0 _ t1 (by omega) t3]
  have enum : T.g T.num (T.top k : Int) = T.num (T.top k) := by rw [Tb.g_in htn, Int.toNat_natCast]
  have hst := hok.st1 k k1 k2
  have hmon : T.st (T.top k) ≤ T.st k := by
    have : ∀ j, 1 ≤ j → j ≤ T.n → T.st (T.top j) ≤ T.st j := by
      intro j
      induction j using Nat.strongRecOn with
      | ind j ih =>
        intro j1 j2
        by_cases hp : T.par j = 0
        · rw [hok.top0 j j1 j2 hp]; exact Nat.le_refl _
        · rw [hok.top1 j j1 j2 hp]
          have := hok.par_lt j j1 j2
          exact Nat.le_trans (ih _ this (by omega) (by omega)) (hok.mono j j1 j2 hp)
    exact this k k1 k2
  have hst2 := hok.st1 (T.top k) t1 (by omega)
  by_cases hc : T.st k = 3
  · have hcn : T.cnt (k : Int) = false := by unfold Tb.cnt; rw [est, hc]; rfl
    refine ⟨0, by unfold Tb.numI; rw [hcn]; rfl, Nat.zero_le _, fun h => absurd h (Nat.lt_irrefl _), ⟨fun h => absurd h (Nat.lt_irrefl _), fun h => by rw [hcn] at h; cases h.1⟩, fun hp => (h.run k k1 k2 hp (by omega)).symm⟩
  · have hcn : T.cnt (k : Int) = true := by
      unfold Tb.cnt
      rw [est]
      have : T.st k = 1 ∨ T.st k = 2 := by omega
      rcases this with e | e <;> rw [e] <;> rfl
    have hcn2 : T.cnt (T.top k : Int) = true := by
      unfold Tb.cnt
      rw [est2]
      have : T.st (T.top k) = 1 ∨ T.st (T.top k) = 2 := by omega
      rcases this with e | e <;> rw [e] <;> rfl
    refine ⟨T.num (T.top k), by unfold Tb.numI; rw [hcn, etop, enum]; rfl, h.le t1 (by omega), fun _ => by unfold Tb.numI; rw [hcn2, etop2, enum]; rfl, ⟨fun hv => ⟨hcn, ?_⟩, fun hv => ?_⟩, fun hp => by rw [hok.top0 k k1 k2 hp]⟩
    · by_cases e : T.st (T.top k) = 2
      · exact e
      · rw [h.run _ t1 (by omega) t3 e] at hv; exact absurd hv (Nat.lt_irrefl _)
    · exact (h.don _ t1 (by omega) t3 hv.2).1

/-- How many of the first i are top ones of the number m. -/
def met (T : Tb) (i m : Nat) : Nat := ((List.range i).filter fun j => decide (T.par (j + 1) = 0 ∧ T.num (j + 1) = m)).length

theorem met_zero (T : Tb) (m : Nat) : met T 0 m = 0 := rfl
theorem met_succ (T : Tb) (i m : Nat) : met T (i + 1) m = met T i m + if T.par (i + 1) = 0 ∧ T.num (i + 1) = m then 1 else 0 := by
  unfold met
  rw [List.range_succ, List.filter_append, List.length_append]
  congr 1
  by_cases h : T.par (i + 1) = 0 ∧ T.num (i + 1) = m
  · rw [if_pos h]; simp [h]
  · rw [if_neg h]; simp only [List.filter_cons, List.filter_nil, decide_eq_true_eq, if_neg h]; rfl

theorem met_le (T : Tb) : ∀ i m, met T i m ≤ i
  | 0, _ => Nat.le_refl _
  | i + 1, m => by
    rw [met_succ]
    have := met_le T i m
    split <;> omega

/-- In the end each number has been met once. -/
theorem met_one {T : Tb} (hok : T.Ok) (h : T.Nums) {m : Nat} (m1 : 1 ≤ m) (m2 : m ≤ T.last) : met T T.n m = 1 := by
  obtain ⟨k, k1, k2, k3⟩ := h.sur m m1 m2
  have hpk : T.par k = 0 := by
    by_cases hp : T.par k = 0
    · exact hp
    · rw [h.sub k k1 k2 hp] at k3; omega
  have key : ∀ i, i ≤ T.n → met T i m = if k ≤ i then 1 else 0 := by
    intro i
    induction i with
    | zero => intro _; rw [if_neg (by omega)]; rfl
    | succ i ih =>
      intro hi
      rw [met_succ, ih (by omega)]
      by_cases he : i + 1 = k
      · subst he
        rw [if_neg (by omega), if_pos ⟨hpk, k3⟩, if_pos (Nat.le_refl _)]
      · have hno : ¬ (T.par (i + 1) = 0 ∧ T.num (i + 1) = m) := fun hh => he (h.inj (i + 1) k (by omega) hi k1 k2 (by rw [hh.2, k3]) (by rw [hh.2]; omega))
        rw [if_neg hno]
        by_cases hk : k ≤ i
        · rw [if_pos hk, if_pos (by omega)]
        · rw [if_neg hk, if_neg (by omega)]
  rw [key T.n (Nat.le_refl _), if_pos k2]

end Go.Proofs.Ytpdfknknnklioaa
