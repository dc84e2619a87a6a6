/-
  The numbers of commits, as mathematics (stage 9).
-/
import Derived.Test.YtbgnbaogclnpgaaNSnap
namespace Go.Proofs.Ytbgnbaogclnpgaa
open Go.RowKit
set_option linter.unusedVariables false

/-- What holds of numbers. -/
structure Tb.Nums (T : Tb) : Prop where
  sub : ∀ k, 1 ≤ k → k ≤ T.n → T.par k ≠ 0 → T.num k = 0
  don : ∀ k, 1 ≤ k → k ≤ T.n → T.par k = 0 → T.st k = 2 → 1 ≤ T.num k ∧ T.num k ≤ T.last
  run : ∀ k, 1 ≤ k → k ≤ T.n → T.par k = 0 → T.st k ≠ 2 → T.num k = 0
  inj : ∀ k j, 1 ≤ k → k ≤ T.n → 1 ≤ j → j ≤ T.n → T.num k = T.num j → T.num k ≠ 0 → k = j
  sur : ∀ m, 1 ≤ m → m ≤ T.last → ∃ k, 1 ≤ k ∧ k ≤ T.n ∧ T.num k = m

theorem Tb.new_nums : Tb.new.Nums := by
  constructor <;> intros <;> simp [Tb.new] at * <;> omega

theorem Tb.Nums.le {T : Tb} (h : T.Nums) {k : Nat} (h1 : 1 ≤ k) (h2 : k ≤ T.n) : T.num k ≤ T.last := by
  by_cases hp : T.par k = 0
  · by_cases hs : T.st k = 2
    · exact (h.don k h1 h2 hp hs).2
    · rw [h.run k h1 h2 hp hs]; exact Nat.zero_le _
  · rw [h.sub k h1 h2 hp]; exact Nat.zero_le _

theorem Tb.Nums.add {T : Tb} (h : T.Nums) {p : Nat} (hp : p ≤ T.n) : (T.add p).Nums := by
  have e1 : ∀ k, k ≤ T.n → (T.add p).par k = T.par k := fun k hk => upd_ne _ _ _ (by omega)
  have e2 : ∀ k, k ≤ T.n → (T.add p).st k = T.st k := fun k hk => upd_ne _ _ _ (by omega)
  have e3 : ∀ k, k ≤ T.n → (T.add p).num k = T.num k := fun k hk => upd_ne _ _ _ (by omega)
  have e3' : (T.add p).num (T.n + 1) = 0 := upd_same _ _ _
  have e2' : (T.add p).st (T.n + 1) = 1 := upd_same _ _ _
  have cs : ∀ k, k ≤ (T.add p).n → k ≤ T.n ∨ k = T.n + 1 := fun k hk => by have : k ≤ T.n + 1 := hk; omega
  refine ⟨fun k h1 hk h0 => ?_, fun k h1 hk h0 hs => ?_, fun k h1 hk h0 hs => ?_, fun k j h1 hk h2 hj he h0 => ?_, fun m h1 hm => ?_⟩
  · rcases cs k hk with hk | rfl
    · rw [e1 k hk] at h0; rw [e3 k hk]; exact h.sub k h1 hk h0
    · exact e3'
  · rcases cs k hk with hk | rfl
    · rw [e1 k hk] at h0; rw [e2 k hk] at hs; rw [e3 k hk]; exact h.don k h1 hk h0 hs
    · rw [e2'] at hs; omega
  · rcases cs k hk with hk | rfl
    · rw [e1 k hk] at h0; rw [e2 k hk] at hs; rw [e3 k hk]; exact h.run k h1 hk h0 hs
    · exact e3'
  · rcases cs k hk with hk | rfl
    · rcases cs j hj with hj | rfl
      · rw [e3 k hk] at he h0; rw [e3 j hj] at he; exact h.inj k j h1 hk h2 hj he h0
      · rw [e3'] at he; exact absurd he h0
    · exact absurd e3' h0
  · obtain ⟨k, h2, h3, h4⟩ := h.sur m h1 hm
    exact ⟨k, h2, by show k ≤ T.n + 1; omega, by rw [e3 k h3]; exact h4⟩

/-- A state that is not Done comes to no number; one that is Done stays. -/
theorem Tb.Nums.fin {T : Tb} (hok : T.Ok) (h : T.Nums) {id s : Nat} (h1 : 1 ≤ id) (h2 : id ≤ T.n) (hs : T.st id = 1) (hs3 : s = 3 ∨ (s = 2 ∧ T.par id ≠ 0)) : (T.fin id s).Nums := by
  have key : ∀ k, 1 ≤ k → k ≤ T.n → T.par k = 0 → ((T.fin id s).st k = 2 ↔ T.st k = 2) := fun k k1 k2 hp => by
    rcases Tb.fin_st hok k1 k2 id s with ⟨hu, hl, e⟩ | ⟨_, e⟩
    · rcases hu.cases' with rfl | ⟨h0, _⟩
      · rw [e]
        rcases hs3 with rfl | ⟨rfl, hp2⟩
        · omega
        · exact absurd hp hp2
      · exact absurd hp h0
    · rw [e]
  exact ⟨h.sub, fun k k1 k2 hp hst => h.don k k1 k2 hp ((key k k1 k2 hp).1 hst), fun k k1 k2 hp hst => h.run k k1 k2 hp (fun e => hst ((key k k1 k2 hp).2 e)), h.inj, h.sur⟩

theorem Tb.Nums.com {T : Tb} (hok : T.Ok) (h : T.Nums) {id : Nat} (h1 : 1 ≤ id) (h2 : id ≤ T.n) (hs : T.st id = 1) : (T.com id).Nums := by
  unfold Tb.com
  by_cases hp : T.par id = 0
  · rw [if_pos hp]
    have hid0 := h.run id h1 h2 hp (by omega)
    have hle := fun k k1 k2 => h.le (k := k) k1 k2
    have st1 : ∀ k, 1 ≤ k → k ≤ T.n → T.par k = 0 → k ≠ id → (((T.fin id 2).give id).st k = 2 ↔ T.st k = 2) := fun k k1 k2 hk hne => by
      show (T.fin id 2).st k = 2 ↔ _
      rcases Tb.fin_st hok k1 k2 id 2 with ⟨hu, hl, e⟩ | ⟨_, e⟩
      · rcases hu.cases' with rfl | ⟨h0, _⟩
        · exact absurd rfl hne
        · exact absurd hk h0
      · rw [e]
    have st2 : ((T.fin id 2).give id).st id = 2 := by
      show (T.fin id 2).st id = 2
      rcases Tb.fin_st hok h1 h2 id 2 with ⟨_, _, e⟩ | ⟨hn, _⟩
      · exact e
      · exact absurd ⟨.self, by omega⟩ hn
    have n1 : ((T.fin id 2).give id).num id = T.last + 1 := upd_same _ _ _
    have n2 : ∀ k, k ≠ id → ((T.fin id 2).give id).num k = T.num k := fun k hk => upd_ne _ _ _ hk
    have el : ((T.fin id 2).give id).last = T.last + 1 := rfl
    refine ⟨fun k k1 k2 h0 => ?_, fun k k1 k2 h0 hst => ?_, fun k k1 k2 h0 hst => ?_, fun k j k1 k2 j1 j2 he h0 => ?_, fun m m1 m2 => ?_⟩
    · have hne : k ≠ id := fun e => by rw [e] at h0; exact h0 hp
      rw [n2 k hne]; exact h.sub k k1 k2 h0
    · by_cases hne : k = id
      · rw [hne, n1, el]; omega
      · rw [n2 k hne, el]
        have := h.don k k1 k2 h0 ((st1 k k1 k2 h0 hne).1 hst)
        omega
    · have hne : k ≠ id := fun e => by rw [e] at hst; exact hst st2
      rw [n2 k hne]; exact h.run k k1 k2 h0 (fun e => hst ((st1 k k1 k2 h0 hne).2 e))
    · by_cases hk : k = id
      · by_cases hj : j = id
        · rw [hk, hj]
        · rw [hk, n1, n2 j hj] at he
          have := hle j j1 j2; omega
      · by_cases hj : j = id
        · rw [hj, n1, n2 k hk] at he
          have := hle k k1 k2; omega
        · rw [n2 k hk] at he h0; rw [n2 j hj] at he
          exact h.inj k j k1 k2 j1 j2 he h0
    · rw [el] at m2
      by_cases hm : m = T.last + 1
      · exact ⟨id, h1, h2, by rw [n1, hm]⟩
      · obtain ⟨k, k1, k2, k3⟩ := h.sur m m1 (by omega)
        have hne : k ≠ id := fun e => by rw [e, hid0] at k3; omega
        exact ⟨k, k1, k2, by rw [n2 k hne]; exact k3⟩
  · rw [if_neg hp]
    exact h.fin hok h1 h2 hs (.inr ⟨rfl, hp⟩)

theorem Tb.Nums.stp {T : Tb} (hok : T.Ok) (h : T.Nums) (kind id : Int) : (T.stp kind id).Nums := by
  unfold Tb.stp
  split
  · unfold Tb.begT
    split
    · next he =>
      rcases Tb.begE_ok he with rfl | ⟨h1, h2, _⟩
      · exact h.add (Nat.zero_le _)
      · exact h.add (by omega)
    · exact h
  · split
    · unfold Tb.comT
      split
      · next he =>
        obtain ⟨h1, h2, h3⟩ := Tb.err_ok he
        exact h.com hok (by omega) (by omega) h3
      · exact h
    · unfold Tb.aboT
      split
      · next he =>
        obtain ⟨h1, h2, h3⟩ := Tb.err_ok he
        exact h.fin hok (by omega) (by omega) h3 (.inl rfl)
      · exact h

/-! ### What the law asks -/

/-- A number is that of its top one; there is one just if it counts, and its top one is Done. -/
theorem num_facts {T : Tb} (hok : T.Ok) (h : T.Nums) {k : Nat} (k1 : 1 ≤ k) (k2 : k ≤ T.n) : ∃ v : Nat, T.numI (k : Int) = v ∧ v ≤ T.last ∧ (0 < v → T.numI (T.top k : Int) = v) ∧ (0 < v ↔ (T.cnt (k : Int) = true ∧ T.st (T.top k) = 2)) ∧ (T.par k = 0 → v = T.num k) := by
  have hkn : 1 ≤ (k : Int) ∧ (k : Int) ≤ T.n := by omega
  obtain ⟨t1, t2, t3⟩ := hok.top_in k k1 k2
  have htn : 1 ≤ (T.top k : Int) ∧ (T.top k : Int) ≤ T.n := by omega
  have est : T.g T.st (k : Int) = T.st k := by rw [Tb.g_in hkn, Int.toNat_natCast]
  have est2 : T.g T.st (T.top k : Int) = T.st (T.top k) := by rw [Tb.g_in htn, Int.toNat_natCast]
  have etop : T.g T.top (k : Int) = T.top k := by rw [Tb.g_in hkn, Int.toNat_natCast]
  have etop2 : T.g T.top (T.top k : Int) = T.top k := by rw [Tb.g_in htn, Int.toNat_natCast, hok.top0 _ t1 (by omega) t3]
  have enum : T.g T.num (T.top k : Int) = T.num (T.top k) := by rw [Tb.g_in htn, Int.toNat_natCast]
  have hst := hok.st1 k k1 k2
  have hmon : T.st (T.top k) ≤ T.st k := by
    have : ∀ j, 1 ≤ j → j ≤ T.n → T.st (T.top j) ≤ T.st j := by
      intro j
      induction j using Nat.strongRecOn with
      | ind j ih =>
        intro j1 j2
        by_cases hp : T.par j = 0
        · rw [hok.top0 j j1 j2 hp]; exact Nat.le_refl _
        · rw [hok.top1 j j1 j2 hp]
          have := hok.par_lt j j1 j2
          exact Nat.le_trans (ih _ this (by omega) (by omega)) (hok.mono j j1 j2 hp)
    exact this k k1 k2
  have hst2 := hok.st1 (T.top k) t1 (by omega)
  by_cases hc : T.st k = 3
  · have hcn : T.cnt (k : Int) = false := by unfold Tb.cnt; rw [est, hc]; rfl
    refine ⟨0, by unfold Tb.numI; rw [hcn]; rfl, Nat.zero_le _, fun h => absurd h (Nat.lt_irrefl _), ⟨fun h => absurd h (Nat.lt_irrefl _), fun h => by rw [hcn] at h; cases h.1⟩, fun hp => (h.run k k1 k2 hp (by omega)).symm⟩
  · have hcn : T.cnt (k : Int) = true := by
      unfold Tb.cnt
      rw [est]
      have : T.st k = 1 ∨ T.st k = 2 := by omega
      rcases this with e | e <;> rw [e] <;> rfl
    have hcn2 : T.cnt (T.top k : Int) = true := by
      unfold Tb.cnt
      rw [est2]
      have : T.st (T.top k) = 1 ∨ T.st (T.top k) = 2 := by omega
      rcases this with e | e <;> rw [e] <;> rfl
    refine ⟨T.num (T.top k), by unfold Tb.numI; rw [hcn, etop, enum]; rfl, h.le t1 (by omega), fun _ => by unfold Tb.numI; rw [hcn2, etop2, enum]; rfl, ⟨fun hv => ⟨hcn, ?_⟩, fun hv => ?_⟩, fun hp => by rw [hok.top0 k k1 k2 hp]⟩
    · by_cases e : T.st (T.top k) = 2
      · exact e
      · rw [h.run _ t1 (by omega) t3 e] at hv; exact absurd hv (Nat.lt_irrefl _)
    · exact (h.don _ t1 (by omega) t3 hv.2).1

/-- How many of the first i are top ones of the number m. -/
def met (T : Tb) (i m : Nat) : Nat := ((List.range i).filter fun j => decide (T.par (j + 1) = 0 ∧ T.num (j + 1) = m)).length

theorem met_zero (T : Tb) (m : Nat) : met T 0 m = 0 := rfl
theorem met_succ (T : Tb) (i m : Nat) : met T (i + 1) m = met T i m + if T.par (i + 1) = 0 ∧ T.num (i + 1) = m then 1 else 0 := by
  unfold met
  rw [List.range_succ, List.filter_append, List.length_append]
  congr 1
  by_cases h : T.par (i + 1) = 0 ∧ T.num (i + 1) = m
  · rw [if_pos h]; simp [h]
  · rw [if_neg h]; simp only [List.filter_cons, List.filter_nil, decide_eq_true_eq, if_neg h]; rfl

theorem met_le (T : Tb) : ∀ i m, met T i m ≤ i
  | 0, _ => Nat.le_refl _
  | i + 1, m => by
    rw [met_succ]
    have := met_le T i m
    split <;> omega

/-- In the end each number has been met once. -/
theorem met_one {T : Tb} (hok : T.Ok) (h : T.Nums) {m : Nat} (m1 : 1 ≤ m) (m2 : m ≤ T.last) : met T T.n m = 1 := by
  obtain ⟨k, k1, k2, k3⟩ := h.sur m m1 m2
  have hpk : T.par k = 0 := by
    by_cases hp : T.par k = 0
    · exact hp
    · rw [h.sub k k1 k2 hp] at k3; omega
  have key : ∀ i, i ≤ T.n → met T i m = if k ≤ i then 1 else 0 := by
    intro i
    induction i with
    | zero => intro _; rw [if_neg (by omega)]; rfl
    | succ i ih =>
      intro hi
      rw [met_succ, ih (by omega)]
      by_cases he : i + 1 = k
      · subst he
        rw [if_neg (by omega), if_pos ⟨hpk, k3⟩, if_pos (Nat.le_refl _)]
      · have hno : ¬ (T.par (i + 1) = 0 ∧ T.num (i + 1) = m) := fun hh => he (h.inj (i + 1) k (by omega) hi k1 k2 (by rw [hh.2, k3]) (by rw [hh.2]; omega))
        rw [if_neg hno]
        by_cases hk : k ≤ i
        · rw [if_pos hk, if_pos (by omega)]
        · rw [if_neg hk, if_neg (by omega)]
  rw [key T.n (Nat.le_refl _), if_pos k2]

end Go.Proofs.Ytbgnbaogclnpgaa

namespace Go.Proofs.Ytbgnbaogclnpgaa
open Go.RowKit
set_option linter.unusedVariables false

def parR (T : Tb) (j : Nat) : List Value := [.int .i64 (if j = 0 then 0 else (T.par j : Int))]

/-- What a step does to the parents. -/
theorem stp_par (T : Tb) (kind id : Int) : (kind = 0 ∧ T.stpE kind id = 0 ∧ (T.stp kind id).n = T.n + 1 ∧ ((id.toNat : Nat) : Int) = id ∧ (∀ k, k ≤ T.n → (T.stp kind id).par k = T.par k) ∧ (T.stp kind id).par (T.n + 1) = id.toNat) ∨
    (¬ (kind = 0 ∧ T.stpE kind id = 0) ∧ (T.stp kind id).n = T.n ∧ (T.stp kind id).par = T.par) := by
  by_cases h0 : kind = 0
  · subst h0
    obtain ⟨e1, e2, e3⟩ := begT_eq T id
    rw [e1, e3]
    by_cases he : T.begE id = 0
    · refine .inl ⟨rfl, he, ?_⟩
      have hid : ((id.toNat : Nat) : Int) = id := by
        rcases Tb.begE_ok he with rfl | ⟨h1, _⟩
        · rfl
        · omega
      unfold Tb.begT
      rw [if_pos he]
      exact ⟨rfl, hid, fun k hk => upd_ne _ _ _ (by omega), upd_same _ _ _⟩
    · refine .inr ⟨fun h => he h.2, ?_⟩
      unfold Tb.begT
      rw [if_neg he]
      exact ⟨rfl, rfl⟩
  · refine .inr ⟨fun h => h0 h.1, ?_⟩
    by_cases h1 : kind = 1
    · rw [(comT_eq T kind id h0 h1).1]
      unfold Tb.comT
      split
      · exact ⟨T.com_n _, T.com_par _⟩
      · exact ⟨rfl, rfl⟩
    · rw [(aboT_eq T kind id h0 h1).1]
      unfold Tb.aboT
      split
      · exact ⟨rfl, rfl⟩
      · exact ⟨rfl, rfl⟩

/-- A table, and beside it a list of all parents of P. -/
structure Two (w0 W : World) (t : Nat) (T : Tb) (F : Nat → Prop) (P : Tb) (b c : Nat) : Prop where
  one : TOne w0 W t T F
  row : RowF 3 1 W (.slice (some ⟨b, 0, none⟩) (P.n + 1) c) (P.n + 1) (parR P)
  nb : ¬ F b
  fb : w0.heap.size ≤ b

section
variable {w0 W W' : World} {t : Nat} {T P : Tb} {F : Nat → Prop} {b c : Nat}

theorem Two.below (h : Two w0 W t T F P b c) (hb : Below W.heap.size W W') : Two w0 W' t T F P b c := ⟨h.one.below hb, h.row.below hb, h.nb, h.fb⟩
theorem Two.lt (h : Two w0 W t T F P b c) : b < W.heap.size := h.row.lt b rfl

theorem Two.start (h : TOne w0 W t Tb.new F) : Two w0 (W.alloc (.cells #[.int .i64 0] 3)) t Tb.new F Tb.new W.heap.size 1 := by
  have hl := World.ownsRow_lit (base := 0) (e := 3) (size := 1) W #[.int .i64 0] 1 (Nat.zero_le _) (by decide) (by simp)
  refine ⟨h.below (Below.allocs _ _), ⟨⟨_, hl, fun j hj o v hv => ?_⟩, fun _ _ => rfl⟩, fun hx => by have := h.is.lt _ hx; omega, h.bel.size⟩
  have hj0 : j = 0 := by have : j < 0 + 1 := hj; omega
  subst hj0
  match o, hv with
  | 0, hv => simpa [parR] using hv
  | o + 1, hv => simp [parR] at hv

/-- A step that begins none leaves the list as it is. -/
theorem Two.same (h : Two w0 W t T F P b c) (hn : T.n = P.n) (hp : T.par = P.par) : Two w0 W t T F T b c := by
  refine ⟨h.one, ?_, h.nb, h.fb⟩
  rw [hn]
  exact h.row.congr fun j _ => by unfold parR; rw [hp]

/-- Behind a step. -/
theorem Two.step {T' : Tb} {v : Value} {e : Ending} (h : Two w0 W t T F P b c) (hn : Next w0 W t F T' v e W') : ∃ F', e = .returned v ∧ Two w0 W' t T' F' P b c := by
  obtain ⟨F', he, h1, h2, h3⟩ := hn
  have hlt := h.lt
  exact ⟨F', he, h1, h.row.stay (h2.stay (G := fun k => k = b) (fun k hk hx => h.nb (by rw [← hk]; exact hx))) (fun k hk => by simp [Value.ownBlock] at hk; exact hk.symm), fun hx => (h3 b hx).elim h.nb (fun h => by omega), h.fb⟩

/-- TOne parent more, by append of a literal. -/
theorem Two.push (h : Two w0 W t T F P b c) (hs : P.n ≤ 100000) (hn : T.n = P.n + 1) (hp : ∀ k, k ≤ P.n → T.par k = P.par k) {id : Int} (hid : (T.par (P.n + 1) : Int) = id) :
    ∃ b' c' W', (∀ ty, (Builtin.append_ #[35, 35] ty #[.slice (some ⟨b, 0, none⟩) (P.n + 1) c, .slice (some ⟨W.heap.size, 0, none⟩) 1 1]).run Try.prog (W.alloc (.cells #[.int .i64 id] 3)) = .ok (.slice (some ⟨b', 0, none⟩) (T.n + 1) c') W') ∧ Two w0 W' t T F T b' c' ∧ w0.heap.size ≤ W'.heap.size := by
  obtain ⟨i0, hi, hz, hsz, hby⟩ := info_parts info_int
  have hal := Below.allocs W (.cells #[.int .i64 id] 3)
  have hlit := Lit.new W 3 [.int .i64 id]
  obtain ⟨s', W', hrun, hrow, hg, hown⟩ := (h.row.below hal).append (P := Try.prog) 35 35 i0 _ 8 Try.underlying35 hi hz hsz hby rfl (by decide) (by decide) (b := W.heap.size) (k := 1) (c := 1) (q := fun _ => [.int .i64 id])
    (fun j hj o v hv => by
      obtain rfl : j = 0 := by omega
      rw [Nat.zero_mul, Nat.zero_add]
      exact hlit.cell hv) (fun _ _ => rfl) (fun _ _ v hv => by simp at hv; subst hv; rfl) (by omega)
  obtain ⟨b', c', e, _⟩ := hrow.at (j := P.n + 1) (by omega)
  subst e
  have hlt := h.lt
  have ht : Touch (fun k => k = b) W W' := (Touch.of_below hal).trans (Touch.grown (F := fun k => k = b) hg (fun k hk => by simp [Value.ownBlock] at hk; exact hk.symm)) (fun _ _ h => h)
  have hb' : b' = b ∨ W.heap.size ≤ b' := by
    rcases hown with e | e
    · simp [Value.ownBlock] at e; exact .inl e
    · simp [Value.ownBlock] at e
      exact .inr (by omega)
  refine ⟨b', c', W', fun ty => by rw [hn]; exact hrun, ⟨⟨h.one.is.stay (ht.stay (G := F) (fun k hk hx => h.nb (by rw [← hx]; exact hk))), h.one.far, ?_⟩, ?_, fun hx => ?_, ?_⟩, ?_⟩
  · exact (h.one.bel.trans (hal.mono h.one.bel.size)).trans ((Below.refl _ _).grown hg (Nat.le_trans h.one.bel.size hal.size) (fun k hk => by
      simp [Value.ownBlock] at hk
      rw [← hk]
      exact h.fb))
  · rw [hn]
    refine hrow.congr fun j hj => ?_
    unfold parR
    by_cases hjn : j < P.n + 1
    · rw [if_pos hjn]
      by_cases hj0 : j = 0
      · rw [if_pos hj0, if_pos hj0]
      · rw [if_neg hj0, if_neg hj0, hp j (by omega)]
    · obtain rfl : j = P.n + 1 := by omega
      rw [if_neg hjn, if_neg (by omega), hid]
  · rcases hb' with rfl | hb'
    · exact h.nb hx
    · have := h.one.is.lt b' hx; omega
  · rcases hb' with rfl | hb'
    · exact h.fb
    · exact Nat.le_trans h.one.bel.size hb'
  · exact Nat.le_trans h.one.bel.size ht.size
end

end Go.Proofs.Ytbgnbaogclnpgaa

namespace Go.Proofs.Ytbgnbaogclnpgaa
set_option linter.unusedVariables false

theorem Tb.Ok.und_top {T : Tb} (hok : T.Ok) {id : Nat} : ∀ k, Und T.par id k → 1 ≤ k → k ≤ T.n → T.top k = T.top id := by
  intro k hu
  induction hu with
  | self => intro _ _; rfl
  | @up k h0 _ ih =>
    intro h1 hk
    have := hok.par_lt k h1 hk
    rw [hok.top1 k h1 hk h0]
    exact ih (by omega) (by omega)

theorem Tb.Ok.top_st {T : Tb} (hok : T.Ok) : ∀ k, 1 ≤ k → k ≤ T.n → T.st (T.top k) ≤ T.st k := by
  intro j
  induction j using Nat.strongRecOn with
  | ind j ih =>
    intro j1 j2
    by_cases hp : T.par j = 0
    · rw [hok.top0 j j1 j2 hp]; exact Nat.le_refl _
    · rw [hok.top1 j j1 j2 hp]
      have := hok.par_lt j j1 j2
      exact Nat.le_trans (ih _ this (by omega) (by omega)) (hok.mono j j1 j2 hp)

/-- It stands below its top one, or is it. -/
theorem Tb.Ok.top_und {T : Tb} (hok : T.Ok) : ∀ k, 1 ≤ k → k ≤ T.n → Und T.par (T.top k) k := by
  intro j
  induction j using Nat.strongRecOn with
  | ind j ih =>
    intro j1 j2
    by_cases hp : T.par j = 0
    · rw [hok.top0 j j1 j2 hp]; exact .self
    · rw [hok.top1 j j1 j2 hp]
      have := hok.par_lt j j1 j2
      exact .up hp (ih _ this (by omega) (by omega))

theorem cnt_is {T : Tb} (hok : T.Ok) {k : Nat} (h1 : 1 ≤ k) (h2 : k ≤ T.n) : T.cnt (k : Int) = decide (T.st k ≠ 3) := by
  unfold Tb.cnt
  rw [Tb.g_in (by omega), Int.toNat_natCast]
  have := hok.st1 k h1 h2
  have : T.st k = 1 ∨ T.st k = 2 ∨ T.st k = 3 := by omega
  rcases this with e | e | e <;> rw [e] <;> rfl

theorem numI_is {T : Tb} (hok : T.Ok) {k : Nat} (h1 : 1 ≤ k) (h2 : k ≤ T.n) : T.numI (k : Int) = if T.st k = 3 then 0 else (T.num (T.top k) : Int) := by
  unfold Tb.numI
  rw [cnt_is hok h1 h2, Tb.g_in (f := T.top) (by omega), Int.toNat_natCast]
  have := hok.top_in k h1 h2
  rw [Tb.g_in (f := T.num) (by omega), Int.toNat_natCast]
  by_cases h : T.st k = 3
  · rw [if_pos h, h]; rfl
  · rw [if_neg h, if_pos (decide_eq_true h)]

/-- What is Running has no number. -/
theorem numI_run {T : Tb} (hok : T.Ok) (h : T.Nums) {k : Nat} (h1 : 1 ≤ k) (h2 : k ≤ T.n) (hs : T.st k ≠ 2) : T.numI (k : Int) = 0 := by
  rw [numI_is hok h1 h2]
  by_cases h3 : T.st k = 3
  · rw [if_pos h3]
  · rw [if_neg h3]
    have t := hok.top_in k h1 h2
    have := hok.top_st k h1 h2
    have := hok.st1 k h1 h2
    rw [h.run _ t.1 (by omega) t.2.2 (by omega)]
    rfl

/-- What a step does to one that there is. -/
theorem stp_one {T : Tb} (hok : T.Ok) (kind id : Int) {k : Nat} (h1 : 1 ≤ k) (h2 : k ≤ T.n) : (T.stp kind id).top k = T.top k ∧ k ≤ (T.stp kind id).n ∧
    (((T.stp kind id).st k = T.st k) ∨ (kind ≠ 0 ∧ T.err id = 0 ∧ Und T.par id.toNat k ∧ ((kind = 1 ∧ T.st k = 1 ∧ (T.stp kind id).st k = 2) ∨ (kind ≠ 1 ∧ T.st k ≤ 2 ∧ (T.stp kind id).st k = 3)))) := by
  by_cases h0 : kind = 0
  · subst h0
    rw [(begT_eq T id).1]
    unfold Tb.begT
    split
    · exact ⟨upd_ne _ _ _ (by omega), by show k ≤ T.n + 1; omega, .inl (upd_ne _ _ _ (by omega))⟩
    · exact ⟨rfl, h2, .inl rfl⟩
  · by_cases hk : kind = 1
    · rw [(comT_eq T kind id h0 hk).1]
      unfold Tb.comT
      by_cases he : T.err id = 0
      · rw [if_pos he]
        rw [Tb.com_top, Tb.com_n, Tb.com_st]
        refine ⟨rfl, h2, ?_⟩
        rcases Tb.fin_st hok h1 h2 id.toNat 2 with ⟨hu, hl, e⟩ | ⟨_, e⟩
        · have := hok.st1 k h1 h2
          exact .inr ⟨h0, he, hu, .inl ⟨hk, by omega, e⟩⟩
        · exact .inl e
      · rw [if_neg he]; exact ⟨rfl, h2, .inl rfl⟩
    · rw [(aboT_eq T kind id h0 hk).1]
      unfold Tb.aboT
      by_cases he : T.err id = 0
      · rw [if_pos he]
        refine ⟨rfl, h2, ?_⟩
        rcases Tb.fin_st hok h1 h2 id.toNat 3 with ⟨hu, hl, e⟩ | ⟨_, e⟩
        · exact .inr ⟨h0, he, hu, .inr ⟨hk, by omega, e⟩⟩
        · exact .inl e
      · rw [if_neg he]; exact ⟨rfl, h2, .inl rfl⟩

/-- A step changes the numbers of none but one that runs. -/
theorem stp_num {T : Tb} (kind id : Int) {j : Nat} (h1 : 1 ≤ j) (h2 : j ≤ T.n) (hs : T.st j ≠ 1) : (T.stp kind id).num j = T.num j := by
  by_cases h0 : kind = 0
  · subst h0
    rw [(begT_eq T id).1]
    unfold Tb.begT
    split
    · exact upd_ne _ _ _ (by omega)
    · rfl
  · by_cases hk : kind = 1
    · rw [(comT_eq T kind id h0 hk).1]
      unfold Tb.comT
      split
      · next he =>
        have hi := Tb.err_ok he
        unfold Tb.com
        split
        · have hne : j ≠ id.toNat := fun e => by rw [e] at hs; exact hs hi.2.2
          exact upd_ne _ _ _ hne
        · rfl
      · rfl
    · rw [(aboT_eq T kind id h0 hk).1]
      unfold Tb.aboT
      split <;> rfl

/-- A step that is refused leaves the table as it is. -/
theorem stp_no {T : Tb} (kind id : Int) (h : T.stpE kind id ≠ 0) : T.stp kind id = T := by
  unfold Tb.stpE at h
  unfold Tb.stp
  by_cases h0 : kind = 0
  · rw [if_pos h0] at h ⊢
    unfold Tb.begT
    rw [if_neg h]
  · rw [if_neg h0] at h ⊢
    unfold Tb.comT Tb.aboT
    rw [if_neg h, if_neg h]
    split <;> rfl

/-- What has committed stays so. -/
theorem stp_keeps {T : Tb} (hok : T.Ok) (hn : T.Nums) (kind id : Int) {k : Nat} (h1 : 1 ≤ k) (h2 : k ≤ T.n) (hs : T.st k = 2) (h0 : T.numI (k : Int) ≠ 0) : (T.stp kind id).st k = 2 ∧ (T.stp kind id).numI (k : Int) = T.numI (k : Int) := by
  have t := hok.top_in k h1 h2
  have hti := numI_is hok h1 h2
  rw [if_neg (by omega)] at hti
  have htop : T.st (T.top k) = 2 := by
    by_cases e : T.st (T.top k) = 2
    · exact e
    · rw [hti, hn.run _ t.1 (by omega) t.2.2 e] at h0; exact absurd rfl h0
  obtain ⟨e1, e2, e3⟩ := stp_one hok kind id h1 h2
  have hst : (T.stp kind id).st k = 2 := by
    rcases e3 with e | ⟨_, he, hu, _⟩
    · rw [e, hs]
    · have hi := Tb.err_ok he
      have := hok.und_top k hu h1 h2
      have h3 := hok.top_st id.toNat (by omega) (by omega)
      rw [← this, htop, hi.2.2] at h3
      omega
  refine ⟨hst, ?_⟩
  rw [numI_is (hok.stp kind id) h1 e2, if_neg (by omega), hti, e1, stp_num kind id t.1 (by omega) (by omega)]

/-- All that the law asks of one transaction. -/
theorem stay_facts {T : Tb} (hok : T.Ok) (hn : T.Nums) (kind id : Int) (hk : 0 ≤ kind) {k : Nat} (h1 : 1 ≤ k) (h2 : k ≤ T.n) : ∃ (x y : Nat) (na nb tp : Int), T.g T.st (k : Int) = x ∧ (T.stp kind id).g (T.stp kind id).st (k : Int) = y ∧ T.numI (k : Int) = na ∧ (T.stp kind id).numI (k : Int) = nb ∧ T.g T.top (k : Int) = tp ∧ (T.stp kind id).g (T.stp kind id).top (k : Int) = tp ∧
    T.cnt (k : Int) = decide (x ≠ 3) ∧ (T.stp kind id).cnt (k : Int) = decide (y ≠ 3) ∧
    ((x = 1 ∧ y = 1 ∧ na = 0) ∨ (x = 1 ∧ y = 2 ∧ na = 0) ∨ (x = 1 ∧ y = 3 ∧ na = 0) ∨ (x = 2 ∧ y = 2 ∧ na = 0) ∨ (x = 2 ∧ y = 2 ∧ na ≠ 0 ∧ nb = na) ∨ (x = 2 ∧ y = 3 ∧ na = 0 ∧ 2 ≤ kind ∧ (T.stp kind id).g (T.stp kind id).st id = 3 ∧ (T.stp kind id).g (T.stp kind id).top id = tp) ∨ (x = 3 ∧ y = 3 ∧ na = 0)) := by
  have hokU := hok.stp kind id
  obtain ⟨e1, e2, e3⟩ := stp_one hok kind id h1 h2
  have hin : 1 ≤ (k : Int) ∧ (k : Int) ≤ T.n := by omega
  have hinU : 1 ≤ (k : Int) ∧ (k : Int) ≤ (T.stp kind id).n := by omega
  refine ⟨T.st k, (T.stp kind id).st k, T.numI (k : Int), (T.stp kind id).numI (k : Int), T.top k, ?_, ?_, rfl, rfl, ?_, ?_, cnt_is hok h1 h2, cnt_is hokU h1 e2, ?_⟩
  · rw [Tb.g_in hin, Int.toNat_natCast]
  · rw [Tb.g_in hinU, Int.toNat_natCast]
  · rw [Tb.g_in hin, Int.toNat_natCast]
  · rw [Tb.g_in hinU, Int.toNat_natCast, e1]
  · have hst := hok.st1 k h1 h2
    have hrun : T.st k ≠ 2 → T.numI (k : Int) = 0 := numI_run hok hn h1 h2
    by_cases h20 : T.st k = 2
    · by_cases hn0 : T.numI (k : Int) = 0
      · rcases e3 with e | ⟨k0, he, hu, ⟨_, e, _⟩ | ⟨k1, _, e⟩⟩
        · exact .inr (.inr (.inr (.inl ⟨h20, by rw [e, h20], hn0⟩)))
        · omega
        · refine .inr (.inr (.inr (.inr (.inr (.inl ⟨h20, e, hn0, by omega, ?_, ?_⟩)))))
          · have hi := Tb.err_ok he
            obtain ⟨f1, f2, f3⟩ := stp_one hok kind id (k := id.toNat) (by omega) (by omega)
            rw [Tb.g_in (by omega)]
            rcases f3 with f | ⟨_, _, _, ⟨f, _⟩ | ⟨_, _, f⟩⟩
            · rw [(aboT_eq T kind id k0 k1).1] at f
              unfold Tb.aboT at f
              rw [if_pos he] at f
              rcases Tb.fin_st hok (k := id.toNat) (by omega) (by omega) id.toNat 3 with ⟨_, _, g⟩ | ⟨g, _⟩
              · rw [g, hi.2.2] at f; omega
              · exact absurd ⟨.self, by rw [hi.2.2]; omega⟩ g
            · exact absurd f k1
            · rw [f]; rfl
          · have hi := Tb.err_ok he
            obtain ⟨f1, f2, f3⟩ := stp_one hok kind id (k := id.toNat) (by omega) (by omega)
            rw [Tb.g_in (by omega), f1, hok.und_top k hu h1 h2]
      · obtain ⟨f1, f2⟩ := stp_keeps hok hn kind id h1 h2 h20 hn0
        exact .inr (.inr (.inr (.inr (.inl ⟨h20, f1, hn0, f2⟩))))
    · have hn0 := hrun h20
      rcases e3 with e | ⟨k0, he, hu, ⟨_, e, f⟩ | ⟨_, e, f⟩⟩
      · by_cases hs1 : T.st k = 1
        · exact .inl ⟨hs1, by rw [e, hs1], hn0⟩
        · exact .inr (.inr (.inr (.inr (.inr (.inr ⟨by omega, by omega, hn0⟩)))))
      · exact .inr (.inl ⟨e, f, hn0⟩)
      · exact .inr (.inr (.inl ⟨by omega, f, hn0⟩))

/-- The same, in integers. -/
theorem stay_int {T : Tb} (hok : T.Ok) (hn : T.Nums) (kind id : Int) (hk : 0 ≤ kind) {k : Nat} (h1 : 1 ≤ k) (h2 : k ≤ T.n) : ∃ (x y na nb tp : Int) (ca cb : Bool), T.g T.st (k : Int) = x ∧ (T.stp kind id).g (T.stp kind id).st (k : Int) = y ∧ T.numI (k : Int) = na ∧ (T.stp kind id).numI (k : Int) = nb ∧ T.g T.top (k : Int) = tp ∧ (T.stp kind id).g (T.stp kind id).top (k : Int) = tp ∧
    T.cnt (k : Int) = ca ∧ (T.stp kind id).cnt (k : Int) = cb ∧
    ((x = 1 ∧ na = 0 ∧ ca = true) ∨ (x = 2 ∧ y = 2 ∧ na = 0 ∧ ca = true) ∨ (x = 2 ∧ y = 2 ∧ na ≠ 0 ∧ nb = na ∧ ca = true) ∨ (x = 2 ∧ y = 3 ∧ na = 0 ∧ ca = true ∧ 2 ≤ kind ∧ (T.stp kind id).g (T.stp kind id).st id = 3 ∧ (T.stp kind id).g (T.stp kind id).top id = tp) ∨ (x = 3 ∧ y = 3 ∧ na = 0 ∧ ca = false ∧ cb = false)) := by
  obtain ⟨x, y, na, nb, tp, q1, q2, q3, q4, q5, q6, q7, q8, h⟩ := stay_facts hok hn kind id hk h1 h2
  refine ⟨x, y, na, nb, tp, _, _, q1, q2, q3, q4, q5, q6, q7, q8, ?_⟩
  rcases h with ⟨rfl, rfl, h⟩ | ⟨rfl, rfl, h⟩ | ⟨rfl, rfl, h⟩ | ⟨rfl, rfl, h⟩ | ⟨rfl, rfl, h, h'⟩ | ⟨rfl, rfl, h, h'⟩ | ⟨rfl, rfl, h⟩
  · exact .inl ⟨rfl, h, rfl⟩
  · exact .inl ⟨rfl, h, rfl⟩
  · exact .inl ⟨rfl, h, rfl⟩
  · exact .inr (.inl ⟨rfl, rfl, h, rfl⟩)
  · exact .inr (.inr (.inl ⟨rfl, rfl, h, h', rfl⟩))
  · exact .inr (.inr (.inr (.inl ⟨rfl, rfl, h, rfl, h'⟩)))
  · exact .inr (.inr (.inr (.inr ⟨rfl, rfl, h, rfl, rfl⟩)))

/-- Behind Abort, or Commit: what the law asks of one transaction. -/
theorem back_facts {T : Tb} (hok : T.Ok) (hn : T.Nums) (com : Bool) (id : Int) (he : T.err id = 0) {U : Tb} (hU : (if com = true then T.comT id else T.aboT id) = U) {k : Nat} (h1 : 1 ≤ k) (h2 : k ≤ T.n) :
    (¬ Und T.par id.toNat k ∧ U.g U.st (k : Int) = T.g T.st (k : Int) ∧ U.g U.top (k : Int) = T.g T.top (k : Int) ∧ U.numI (k : Int) = T.numI (k : Int) ∧ U.cnt (k : Int) = T.cnt (k : Int)) ∨
    (Und T.par id.toNat k ∧ com = false ∧ U.g U.st (k : Int) = 3 ∧ U.numI (k : Int) = 0 ∧ U.cnt (k : Int) = false) ∨
    (Und T.par id.toNat k ∧ com = true ∧ U.cnt (k : Int) = T.cnt (k : Int) ∧ ((T.cnt (k : Int) = true ∧ U.g U.st (k : Int) = 2) ∨ (T.cnt (k : Int) = false ∧ U.g U.st (k : Int) = 3)) ∧ (T.par id.toNat = 0 → T.cnt (k : Int) = true → U.numI (k : Int) = U.last) ∧ (T.par id.toNat ≠ 0 → U.numI (k : Int) = 0)) := by
  have hi := Tb.err_ok he
  have i1 : 1 ≤ id.toNat := by omega
  have i2 : id.toNat ≤ T.n := by omega
  have hst := hok.st1 k h1 h2
  have kin : 1 ≤ (k : Int) ∧ (k : Int) ≤ T.n := by omega
  have t := hok.top_in k h1 h2
  by_cases hu : Und T.par id.toNat k
  · cases com with
    | false =>
      refine .inr (.inl ⟨hu, rfl, ?_⟩)
      have e : T.aboT id = U := by simpa using hU
      unfold Tb.aboT at e
      rw [if_pos he] at e
      subst e
      have hs3 : (T.fin id.toNat 3).st k = 3 := by
        rcases Tb.fin_st hok h1 h2 id.toNat 3 with ⟨_, _, g⟩ | ⟨g, g'⟩
        · exact g
        · have : ¬ T.st k < 3 := fun h => g ⟨hu, h⟩
          rw [g']; omega
      have hokU : (T.fin id.toNat 3).Ok := hok.fin (by omega)
      refine ⟨?_, ?_, ?_⟩
      · rw [Tb.g_in (show 1 ≤ (k : Int) ∧ (k : Int) ≤ (T.fin id.toNat 3).n from kin), Int.toNat_natCast, hs3]; rfl
      · rw [numI_is hokU h1 h2, if_pos hs3]
      · rw [cnt_is hokU h1 h2, hs3]; rfl
    | true =>
      refine .inr (.inr ⟨hu, rfl, ?_⟩)
      have e : T.comT id = U := by simpa using hU
      unfold Tb.comT at e
      rw [if_pos he] at e
      have hokU : U.Ok := by rw [← e]; exact hok.com _
      have en : U.n = T.n := by rw [← e, Tb.com_n]
      have est : U.st = (T.fin id.toNat 2).st := by rw [← e, Tb.com_st]
      have etop : U.top = T.top := by rw [← e, Tb.com_top]
      have kinU : 1 ≤ (k : Int) ∧ (k : Int) ≤ U.n := by rw [en]; exact kin
      have hsk : (T.st k ≠ 3 ∧ U.st k = 2) ∨ (T.st k = 3 ∧ U.st k = 3) := by
        rw [est]
        rcases Tb.fin_st hok h1 h2 id.toNat 2 with ⟨_, g, g'⟩ | ⟨g, g'⟩
        · exact .inl ⟨by omega, g'⟩
        · have : ¬ T.st k < 2 := fun h => g ⟨hu, h⟩
          rw [g']; omega
      have hc : U.cnt (k : Int) = T.cnt (k : Int) := by
        rw [cnt_is hokU h1 (by omega), cnt_is hok h1 h2]
        rcases hsk with ⟨g, g'⟩ | ⟨g, g'⟩
        · rw [g']; simp [g]
        · rw [g', g]
      refine ⟨hc, ?_, fun hp hct => ?_, fun hp => ?_⟩
      · rw [Tb.g_in kinU, Int.toNat_natCast, cnt_is hok h1 h2]
        rcases hsk with ⟨g, g'⟩ | ⟨g, g'⟩
        · exact .inl ⟨decide_eq_true g, by rw [g']; rfl⟩
        · exact .inr ⟨by rw [g]; rfl, by rw [g']; rfl⟩
      · rw [cnt_is hok h1 h2] at hct
        have hct' := of_decide_eq_true hct
        have hs2 : U.st k = 2 := by omega
        rw [numI_is hokU h1 (by omega), if_neg (by omega), etop, hok.und_top k hu h1 h2, hok.top0 id.toNat i1 i2 hp]
        unfold Tb.com at e
        rw [if_pos hp] at e
        rw [← e]
        show ((upd _ _ _ _ : Nat) : Int) = _
        rw [upd_same]
        rfl
      · rw [numI_is hokU h1 (by omega), etop]
        split
        · rfl
        · unfold Tb.com at e
          rw [if_neg hp] at e
          have enum : U.num = T.num := by rw [← e]; rfl
          rw [enum]
          have h5 := hok.und_top k hu h1 h2
          have h6 := hok.top_st id.toNat i1 i2
          rw [← h5, hi.2.2] at h6
          rw [hn.run _ t.1 (by omega) t.2.2 (by omega)]
          rfl
  · refine .inl ⟨hu, ?_⟩
    have hne : T.top k ≠ id.toNat := fun h => hu (by rw [← h]; exact hok.top_und k h1 h2)
    have key : U.Ok ∧ U.n = T.n ∧ U.st k = T.st k ∧ U.top = T.top ∧ U.num (T.top k) = T.num (T.top k) := by
      cases com with
      | false =>
        have e : T.aboT id = U := by simpa using hU
        unfold Tb.aboT at e
        rw [if_pos he] at e
        subst e
        refine ⟨hok.fin (by omega), rfl, ?_, rfl, rfl⟩
        rcases Tb.fin_st hok h1 h2 id.toNat 3 with ⟨g, _⟩ | ⟨_, g⟩
        · exact absurd g hu
        · exact g
      | true =>
        have e : T.comT id = U := by simpa using hU
        unfold Tb.comT at e
        rw [if_pos he] at e
        refine ⟨by rw [← e]; exact hok.com _, by rw [← e, Tb.com_n], ?_, by rw [← e, Tb.com_top], ?_⟩
        · rw [← e, Tb.com_st]
          rcases Tb.fin_st hok h1 h2 id.toNat 2 with ⟨g, _⟩ | ⟨_, g⟩
          · exact absurd g hu
          · exact g
        · rw [← e]
          unfold Tb.com
          split
          · exact upd_ne _ _ _ hne
          · rfl
    obtain ⟨k1, k2, k3, k4, k5⟩ := key
    have kinU : 1 ≤ (k : Int) ∧ (k : Int) ≤ U.n := by rw [k2]; exact kin
    refine ⟨?_, ?_, ?_, ?_⟩
    · rw [Tb.g_in kinU, Tb.g_in kin, Int.toNat_natCast, k3]
    · rw [Tb.g_in kinU, Tb.g_in kin, k4]
    · rw [numI_is k1 h1 (by omega), numI_is hok h1 h2, k3, k4, k5]
    · rw [cnt_is k1 h1 (by omega), cnt_is hok h1 h2, k3]

end Go.Proofs.Ytbgnbaogclnpgaa

namespace Go.Proofs.Ytbgnbaogclnpgaa
open Go.RowKit
set_option linter.unusedVariables false

/-- The number of one that counts is that of its top one. -/
theorem num_top {T : Tb} (hok : T.Ok) {id : Int} (h : T.cnt id = true) : T.numI (T.g T.top id) = T.numI id := by
  by_cases hin : 1 ≤ id ∧ id ≤ T.n
  · obtain ⟨k, rfl⟩ : ∃ k : Nat, id = (k : Int) := ⟨id.toNat, by omega⟩
    have hc := cnt_is hok (k := k) (by omega) (by omega)
    rw [h] at hc
    have h3 : T.st k ≠ 3 := of_decide_eq_true hc.symm
    have ht := hok.top_in k (by omega) (by omega)
    have hts := hok.top_st k (by omega) (by omega)
    have hs := hok.st1 k (by omega) (by omega)
    rw [Tb.g_in hin, Int.toNat_natCast, numI_is hok (by omega) (by omega), numI_is hok (by omega) (by omega), if_neg (by omega), if_neg h3, hok.top0 (T.top k) (by omega) (by omega) ht.2.2]
  · unfold Tb.cnt at h
    rw [Tb.g_out hin] at h
    exact absurd h (by decide)

/-- TOne that counts has a top one. -/
theorem cnt_top {T : Tb} (hok : T.Ok) {id : Int} (h : T.cnt id = true) : 1 ≤ T.g T.top id := by
  by_cases hin : 1 ≤ id ∧ id ≤ T.n
  · rw [Tb.g_in hin]
    have := hok.top_in id.toNat (by omega) (by omega)
    omega
  · unfold Tb.cnt at h
    rw [Tb.g_out hin] at h
    exact absurd h (by decide)

section
variable {w W' : World} {x : Nat} {T : Tb}
end

end Go.Proofs.Ytbgnbaogclnpgaa

namespace Go.Proofs.Ytbgnbaogclnpgaa
open Go.RowKit
set_option linter.unusedVariables false

/-- A viewer in a block of its own, apart from the blocks of F. -/
structure View (W : World) (g : Nat) (a m : Int) (F : Nat → Prop) : Prop where
  lit : Lit W g 34 [.int .i64 a, .int .i64 m]
  no : ¬ F g

section
variable {w0 W W' : World} {t g : Nat} {T T' : Tb} {F : Nat → Prop} {a m : Int}

theorem TOne.tv (h : TOne w0 W t T F) (hn : T.n ≤ 1000) : TV W (.pointer (some ⟨t, 0, none⟩)) T := .inl ⟨t, F, rfl, h.is, by omega⟩

theorem View.below (h : View W g a m F) (hb : Below W.heap.size W W') : View W' g a m F := ⟨h.lit.below hb, h.no⟩
theorem View.next {F' : Nat → Prop} (h : View W g a m F) (ht : Touch F W W') (hF : ∀ k, F' k → F k ∨ W.heap.size ≤ k) : View W' g a m F' :=
  ⟨h.lit.stay (ht.stay (G := fun k => k = g) (fun k hk hx => h.no (by rw [← hk]; exact hx))) rfl, fun hx => (hF g hx).elim h.no (fun hl => by have := h.lit.lt; omega)⟩

/-- A viewer, stored into a block just made. -/
theorem View.make (W : World) (a m : Int) (hF : ∀ k, F k → k < W.heap.size) : View (W.alloc (.cells #[.int .i64 a, .int .i64 m] 34)) W.heap.size a m F ∧ Below W.heap.size W (W.alloc (.cells #[.int .i64 a, .int .i64 m] 34)) :=
  ⟨⟨Lit.new W _ [.int .i64 a, .int .i64 m], fun hx => by have := hF _ hx; omega⟩, Below.allocs _ _⟩

theorem View.one (W : World) (a m : Int) (hF : ∀ k, F k → k < W.heap.size) : ∃ g V, W.heap.size = g ∧ W.alloc (.cells #[.int .i64 a, .int .i64 m] 34) = V ∧ View V g a m F ∧ Below W.heap.size W V :=
  ⟨_, _, rfl, rfl, (View.make W a m hF).1, (View.make W a m hF).2⟩

theorem View.two (W : World) (a m a' m' : Int) (hF : ∀ k, F k → k < W.heap.size) : ∃ g g' V, W.heap.size = g ∧ W.heap.size + 1 = g' ∧ (W.alloc (.cells #[.int .i64 a, .int .i64 m] 34)).alloc (.cells #[.int .i64 a', .int .i64 m'] 34) = V ∧ View V g a m F ∧ View V g' a' m' F ∧ Below W.heap.size W V := by
  obtain ⟨h1, h2⟩ := View.make W a m hF
  have hs : (W.alloc (.cells #[.int .i64 a, .int .i64 m] 34)).heap.size = W.heap.size + 1 := by simp
  obtain ⟨h3, h4⟩ := View.make (W.alloc (.cells #[.int .i64 a, .int .i64 m] 34)) a' m' (F := F) (fun k hk => by have := hF k hk; omega)
  rw [hs] at h3
  exact ⟨_, _, _, rfl, rfl, rfl, h1.below h4, h3, below_tr h2 h4⟩

theorem one_now (h : TOne w0 W t T F) (hn : T.n ≤ 1000) (m la : Int) (hla : (T.last : Int) = la) : Calls Try.prog 9 #[.pointer (some ⟨t, 0, none⟩), .int .i64 m] W fun e w' => e = .returned (.agg #[.int .i64 la, .int .i64 m]) ∧ Below W.heap.size W w' := now_is W _ T m (h.tv hn) la hla
theorem one_own (h : TOne w0 W t T F) (hn : T.n ≤ 1000) (a m id : Int) (b : Bool) (hi : I64 id) (hb : T.ownB m id = b) : Calls Try.prog 37 #[.agg #[.int .i64 a, .int .i64 m], .pointer (some ⟨t, 0, none⟩), .int .i64 id] W fun e w' => e = .returned (.bool b) ∧ Below W.heap.size W w' := own_is W _ T a m id hi (h.tv hn) b hb
theorem one_sees (h : TOne w0 W t T F) (hn : T.n ≤ 1000) (a m id : Int) (b : Bool) (hi : I64 id) (hb : T.seesB a m id = b) : Calls Try.prog 36 #[.agg #[.int .i64 a, .int .i64 m], .pointer (some ⟨t, 0, none⟩), .int .i64 id] W fun e w' => e = .returned (.bool b) ∧ Below W.heap.size W w' := sees_is W _ T a m id hi (h.tv hn) b hb
end

/-- Of nil. -/
theorem now_nil (w : World) (m : Int) : Calls Try.prog 9 #[.pointer none, .int .i64 m] w fun e w' => e = .returned (.agg #[.int .i64 0, .int .i64 m]) ∧ Below w.heap.size w w' := now_is w _ Tb.new m (.inr ⟨rfl, rfl⟩) 0 rfl
theorem new_own (m id : Int) : Tb.new.ownB m id = false := by unfold Tb.ownB; rw [new_cnt]; rfl
theorem new_sees (a m id : Int) : Tb.new.seesB a m id = false := by unfold Tb.seesB Tb.reachB; rw [new_own, new_num]; rfl
theorem new_later (a m id : Int) : Tb.new.laterB a m id = false := by unfold Tb.laterB; rw [new_num]; rfl
theorem own_nil (w : World) (a m id : Int) (hi : I64 id) : Calls Try.prog 37 #[.agg #[.int .i64 a, .int .i64 m], .pointer none, .int .i64 id] w fun e w' => e = .returned (.bool false) ∧ Below w.heap.size w w' := own_is w _ Tb.new a m id hi (.inr ⟨rfl, rfl⟩) false (new_own _ _)
theorem sees_nil (w : World) (a m id : Int) (hi : I64 id) : Calls Try.prog 36 #[.agg #[.int .i64 a, .int .i64 m], .pointer none, .int .i64 id] w fun e w' => e = .returned (.bool false) ∧ Below w.heap.size w w' := sees_is w _ Tb.new a m id hi (.inr ⟨rfl, rfl⟩) false (new_sees _ _ _)
/-! ### Steps -/

section
variable {w W W' : World} {t x : Nat} {T X T' : Tb} {F Fx : Nat → Prop}
end

end Go.Proofs.Ytbgnbaogclnpgaa
