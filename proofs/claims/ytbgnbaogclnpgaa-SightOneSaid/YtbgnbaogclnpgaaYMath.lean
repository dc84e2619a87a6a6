/-
  Tables of transactions, as plain mathematics (stage 9).
-/
import Derived.Test.YtbgnbaogclnpgaaYBase
namespace Go.Proofs.Ytbgnbaogclnpgaa

/-- A table of n transactions, told by functions of their numbers: whose parent, its state, its number, its top one; the youngest one below it, and the next older one beside it. -/
structure Tb where
  n : Nat
  last : Nat
  par : Nat → Nat
  st : Nat → Nat
  num : Nat → Nat
  top : Nat → Nat
  y : Nat → Nat
  old : Nat → Nat

def Tb.new : Tb := ⟨0, 0, fun _ => 0, fun _ => 0, fun _ => 0, fun _ => 0, fun _ => 0, fun _ => 0⟩

def upd (f : Nat → Nat) (i v : Nat) : Nat → Nat := fun k => if k = i then v else f k
theorem upd_same (f : Nat → Nat) (i v : Nat) : upd f i v i = v := by simp [upd]
theorem upd_ne (f : Nat → Nat) (i v : Nat) {k : Nat} (h : k ≠ i) : upd f i v k = f k := by simp [upd, h]

/-- It is id, or stands below it. -/
inductive Und (par : Nat → Nat) (id : Nat) : Nat → Prop
  | self : Und par id id
  | up {k : Nat} : par k ≠ 0 → Und par id (par k) → Und par id k

theorem Und.cases' {par : Nat → Nat} {id k : Nat} (h : Und par id k) : k = id ∨ (par k ≠ 0 ∧ Und par id (par k)) := by
  cases h with
  | self => exact .inl rfl
  | up h1 h2 => exact .inr ⟨h1, h2⟩

structure Tb.Ok (T : Tb) : Prop where
  par_lt : ∀ k, 1 ≤ k → k ≤ T.n → T.par k < k
  st1 : ∀ k, 1 ≤ k → k ≤ T.n → 1 ≤ T.st k ∧ T.st k ≤ 3
  mono : ∀ k, 1 ≤ k → k ≤ T.n → T.par k ≠ 0 → T.st (T.par k) ≤ T.st k
  top0 : ∀ k, 1 ≤ k → k ≤ T.n → T.par k = 0 → T.top k = k
  top1 : ∀ k, 1 ≤ k → k ≤ T.n → T.par k ≠ 0 → T.top k = T.top (T.par k)
  kid : ∀ c, 1 ≤ c → c ≤ T.n → T.par c ≠ 0 → c ≤ T.y (T.par c)
  y_is : ∀ k, 1 ≤ k → k ≤ T.n → T.y k ≠ 0 → T.y k ≤ T.n ∧ T.par (T.y k) = k
  sib : ∀ k c, 1 ≤ c → c ≤ T.n → 1 ≤ k → k ≤ T.n → T.par c ≠ 0 → T.par k = T.par c → c < k → c ≤ T.old k
  old_is : ∀ k, 1 ≤ k → k ≤ T.n → T.old k ≠ 0 → T.old k < k ∧ T.par (T.old k) = T.par k ∧ T.par k ≠ 0

theorem Tb.new_ok : Tb.new.Ok := by
  constructor <;> intros <;> simp [Tb.new] at * <;> omega

/-- TOne begins below p (0: none). -/
def Tb.add (T : Tb) (p : Nat) : Tb :=
  { n := T.n + 1, last := T.last, par := upd T.par (T.n + 1) p, st := upd T.st (T.n + 1) 1, num := upd T.num (T.n + 1) 0, top := upd T.top (T.n + 1) (if p = 0 then T.n + 1 else T.top p),
    y := upd (if p = 0 then T.y else upd T.y p (T.n + 1)) (T.n + 1) 0, old := upd T.old (T.n + 1) (if p = 0 then 0 else T.y p) }

/-- The same, reckoned (in no more steps than f). -/
def undB (par : Nat → Nat) (id : Nat) : Nat → Nat → Bool
  | 0, k => k == id
  | f + 1, k => k == id || (par k != 0 && undB par id f (par k))

theorem undB_iff {T : Tb} (h : T.Ok) {id : Nat} : ∀ (f k : Nat), 1 ≤ k → k ≤ T.n → k ≤ f → (undB T.par id f k = true ↔ Und T.par id k)
  | 0, k, h1, _, h3 => by omega
  | f + 1, k, h1, h2, h3 => by
    have hl := h.par_lt k h1 h2
    simp only [undB, Bool.or_eq_true, beq_iff_eq, Bool.and_eq_true, bne_iff_ne, ne_eq]
    constructor
    · rintro (rfl | ⟨h4, h5⟩)
      · exact .self
      · exact .up h4 ((undB_iff h f (T.par k) (by omega) (by omega) (by omega)).1 h5)
    · intro hu
      rcases hu.cases' with rfl | ⟨h4, h5⟩
      · exact .inl rfl
      · exact .inr ⟨h4, (undB_iff h f (T.par k) (by omega) (by omega) (by omega)).2 h5⟩

/-- TOne gets a state, and so does each below it whose state is an earlier one. -/
def Tb.fin (T : Tb) (id s : Nat) : Tb := { T with st := fun k => if undB T.par id k k = true ∧ T.st k < s then s else T.st k }

/-- TOne gets the next number. -/
def Tb.give (T : Tb) (id : Nat) : Tb := { T with last := T.last + 1, num := upd T.num id (T.last + 1) }

def Tb.com (T : Tb) (id : Nat) : Tb := if T.par id = 0 then (T.fin id 2).give id else T.fin id 2

theorem Tb.fin_st {T : Tb} (hok : T.Ok) {k : Nat} (h1 : 1 ≤ k) (h2 : k ≤ T.n) (id s : Nat) : (Und T.par id k ∧ T.st k < s ∧ (T.fin id s).st k = s) ∨ (¬ (Und T.par id k ∧ T.st k < s) ∧ (T.fin id s).st k = T.st k) := by
  have hu := undB_iff hok (id := id) k k h1 h2 (Nat.le_refl _)
  by_cases h : undB T.par id k k = true ∧ T.st k < s
  · exact .inl ⟨hu.1 h.1, h.2, by simp only [Tb.fin]; rw [if_pos h]⟩
  · exact .inr ⟨fun hx => h ⟨hu.2 hx.1, hx.2⟩, by simp only [Tb.fin]; rw [if_neg h]⟩

theorem Tb.Ok.add {T : Tb} (h : T.Ok) {p : Nat} (hp : p ≤ T.n) (hs : p ≠ 0 → T.st p = 1) : (T.add p).Ok := by
  have e1 : ∀ k, k ≤ T.n → (T.add p).par k = T.par k := fun k hk => upd_ne _ _ _ (by omega)
  have e1' : (T.add p).par (T.n + 1) = p := upd_same _ _ _
  have e2 : ∀ k, k ≤ T.n → (T.add p).st k = T.st k := fun k hk => upd_ne _ _ _ (by omega)
  have e2' : (T.add p).st (T.n + 1) = 1 := upd_same _ _ _
  have e3 : ∀ k, k ≤ T.n → (T.add p).top k = T.top k := fun k hk => upd_ne _ _ _ (by omega)
  have e3' : (T.add p).top (T.n + 1) = if p = 0 then T.n + 1 else T.top p := upd_same _ _ _
  have e4 : ∀ k, 1 ≤ k → k ≤ T.n → (T.add p).y k = if k = p then T.n + 1 else T.y k := fun k h1 hk => by
    show upd _ _ _ k = _
    rw [upd_ne _ _ _ (by omega)]
    by_cases hp0 : p = 0
    · rw [if_pos hp0, if_neg (by omega)]
    · rw [if_neg hp0]; rfl
  have e4' : (T.add p).y (T.n + 1) = 0 := upd_same _ _ _
  have e5 : ∀ k, k ≤ T.n → (T.add p).old k = T.old k := fun k hk => upd_ne _ _ _ (by omega)
  have e5' : (T.add p).old (T.n + 1) = if p = 0 then 0 else T.y p := upd_same _ _ _
  have en : (T.add p).n = T.n + 1 := rfl
  have hpl := h.par_lt
  have cs : ∀ k, k ≤ (T.add p).n → k ≤ T.n ∨ k = T.n + 1 := fun k hk => by rw [en] at hk; omega
  refine ⟨fun k h1 hk => ?_, fun k h1 hk => ?_, fun k h1 hk h0 => ?_, fun k h1 hk h0 => ?_, fun k h1 hk h0 => ?_, fun c h1 hc h0 => ?_, fun k h1 hk h0 => ?_, fun k c c1 hc h1 hk h0 hpk hck => ?_, fun k h1 hk h0 => ?_⟩
  · rcases cs k hk with hk | rfl
    · rw [e1 k hk]; exact hpl k h1 hk
    · rw [e1']; omega
  · rcases cs k hk with hk | rfl
    · rw [e2 k hk]; exact h.st1 k h1 hk
    · rw [e2']; omega
  · rcases cs k hk with hk | rfl
    · rw [e1 k hk] at h0 ⊢
      have := hpl k h1 hk
      rw [e2 k hk, e2 _ (by omega)]
      exact h.mono k h1 hk h0
    · rw [e1'] at h0 ⊢
      rw [e2', e2 p hp, hs h0]
      exact Nat.le_refl 1
  · rcases cs k hk with hk | rfl
    · rw [e1 k hk] at h0
      rw [e3 k hk]; exact h.top0 k h1 hk h0
    · rw [e1'] at h0
      rw [e3', if_pos h0]
  · rcases cs k hk with hk | rfl
    · rw [e1 k hk] at h0 ⊢
      have := hpl k h1 hk
      rw [e3 k hk, e3 _ (by omega)]
      exact h.top1 k h1 hk h0
    · rw [e1'] at h0 ⊢
      rw [e3', if_neg h0, e3 p hp]
  · rcases cs c hc with hk | rfl
    · rw [e1 c hk] at h0 ⊢
      have := hpl c h1 hk
      have h5 := h.kid c h1 hk h0
      rw [e4 _ (by omega) (by omega)]
      split
      · omega
      · exact h5
    · rw [e1'] at h0 ⊢
      rw [e4 p (by omega) hp, if_pos rfl]
      exact Nat.le_refl _
  · rcases cs k hk with hk | rfl
    · rw [e4 k h1 hk] at h0 ⊢
      by_cases hkp : k = p
      · rw [if_pos hkp, e1', en, hkp]
        exact ⟨Nat.le_refl _, rfl⟩
      · rw [if_neg hkp] at h0 ⊢
        have h5 := h.y_is k h1 hk h0
        rw [e1 _ h5.1, en]
        exact ⟨by omega, h5.2⟩
    · rw [e4'] at h0
      exact absurd rfl h0
  · rcases cs k hk with hk | rfl
    · have hcn : c ≤ T.n := by omega
      rw [e1 c hcn] at h0 hpk
      rw [e1 k hk] at hpk
      rw [e5 k hk]
      exact h.sib k c c1 hcn h1 hk h0 hpk hck
    · have hcn : c ≤ T.n := by omega
      rw [e1 c hcn] at h0 hpk
      rw [e1'] at hpk
      rw [e5', if_neg (by omega), hpk]
      exact h.kid c c1 hcn h0
  · rcases cs k hk with hk | rfl
    · rw [e5 k hk] at h0 ⊢
      have h5 := h.old_is k h1 hk h0
      rw [e1 k hk, e1 _ (by omega)]
      exact h5
    · rw [e5'] at h0 ⊢
      by_cases hp0 : p = 0
      · rw [if_pos hp0] at h0; exact absurd rfl h0
      · rw [if_neg hp0] at h0 ⊢
        have h5 := h.y_is p (by omega) hp h0
        rw [e1', e1 _ h5.1]
        exact ⟨by omega, h5.2, hp0⟩

theorem Tb.Ok.fin {T : Tb} (h : T.Ok) {id s : Nat} (hs : 1 ≤ s ∧ s ≤ 3) : (T.fin id s).Ok := by
  refine ⟨h.par_lt, fun k h1 hk => ?_, fun k h1 hk h0 => ?_, h.top0, h.top1, h.kid, h.y_is, h.sib, h.old_is⟩
  · have := h.st1 k h1 hk
    rcases Tb.fin_st h h1 hk id s with ⟨_, _, e⟩ | ⟨_, e⟩ <;> rw [e] <;> omega
  · have hm := h.mono k h1 hk h0
    have ep : (T.fin id s).par = T.par := rfl
    rw [ep] at h0 ⊢
    have hpl := h.par_lt k h1 hk
    have hk2 : k ≤ T.n := hk
    rcases Tb.fin_st h (show 1 ≤ T.par k by omega) (show T.par k ≤ T.n by omega) id s with ⟨u, l, e⟩ | ⟨u, e⟩
    · rcases Tb.fin_st h h1 hk id s with ⟨u2, l2, e2⟩ | ⟨u2, e2⟩
      · rw [e, e2]; exact Nat.le_refl _
      · rw [e, e2]
        have : ¬ T.st k < s := fun hl => u2 ⟨.up h0 u, hl⟩
        omega
    · rcases Tb.fin_st h h1 hk id s with ⟨u2, l2, e2⟩ | ⟨u2, e2⟩
      · rw [e, e2]; omega
      · rw [e, e2]; exact hm

theorem Tb.Ok.give {T : Tb} (h : T.Ok) (id : Nat) : (T.give id).Ok := ⟨h.par_lt, h.st1, h.mono, h.top0, h.top1, h.kid, h.y_is, h.sib, h.old_is⟩

theorem Tb.Ok.com {T : Tb} (h : T.Ok) (id : Nat) : (T.com id).Ok := by
  unfold Tb.com
  split
  · exact (h.fin (by omega)).give id
  · exact h.fin (by omega)

/-- A top one is one of the table's. -/
theorem Tb.Ok.top_in {T : Tb} (h : T.Ok) : ∀ k, 1 ≤ k → k ≤ T.n → 1 ≤ T.top k ∧ T.top k ≤ k ∧ T.par (T.top k) = 0 := by
  intro k
  induction k using Nat.strongRecOn with
  | ind k ih =>
    intro h1 hk
    have hl := h.par_lt k h1 hk
    by_cases h0 : T.par k = 0
    · rw [h.top0 k h1 hk h0]; exact ⟨h1, Nat.le_refl _, h0⟩
    · rw [h.top1 k h1 hk h0]
      have := ih (T.par k) hl (by omega) (by omega)
      exact ⟨this.1, by omega, this.2.2⟩

theorem Tb.Ok.und_le {T : Tb} (h : T.Ok) {id : Nat} : ∀ k, Und T.par id k → k ≤ T.n → 1 ≤ k → id ≤ k := by
  intro k hu
  induction hu with
  | self => intro _ _; exact Nat.le_refl _
  | @up k h0 _ ih =>
    intro hk h1
    have := h.par_lt k h1 hk
    have := ih (by omega) (by omega)
    omega

/-! ### Steps -/

/-- Why a transaction is not one that is Running. -/
def Tb.err (T : Tb) (id : Int) : Int := if 1 ≤ id ∧ id ≤ T.n then (if T.st id.toNat = 1 then 0 else 7) else 5

def Tb.begE (T : Tb) (id : Int) : Int := if id = 0 then 0 else T.err id
def Tb.begT (T : Tb) (id : Int) : Tb := if T.begE id = 0 then T.add id.toNat else T
def Tb.begI (T : Tb) (id : Int) : Int := if T.begE id = 0 then T.n + 1 else 0
def Tb.comT (T : Tb) (id : Int) : Tb := if T.err id = 0 then T.com id.toNat else T
def Tb.aboT (T : Tb) (id : Int) : Tb := if T.err id = 0 then T.fin id.toNat 3 else T

def Tb.stp (T : Tb) (kind id : Int) : Tb := if kind = 0 then T.begT id else if kind = 1 then T.comT id else T.aboT id
def Tb.stpI (T : Tb) (kind id : Int) : Int := if kind = 0 then T.begI id else 0
def Tb.stpE (T : Tb) (kind id : Int) : Int := if kind = 0 then T.begE id else T.err id

theorem Tb.err_cases (T : Tb) (id : Int) : (T.err id = 0 ∧ 1 ≤ id ∧ id ≤ T.n ∧ T.st id.toNat = 1) ∨ (T.err id = 7 ∧ 1 ≤ id ∧ id ≤ T.n ∧ T.st id.toNat ≠ 1) ∨ (T.err id = 5 ∧ ¬ (1 ≤ id ∧ id ≤ T.n)) := by
  unfold Tb.err
  by_cases h : 1 ≤ id ∧ id ≤ T.n
  · rw [if_pos h]
    by_cases h2 : T.st id.toNat = 1
    · rw [if_pos h2]; exact .inl ⟨rfl, h.1, h.2, h2⟩
    · rw [if_neg h2]; exact .inr (.inl ⟨rfl, h.1, h.2, h2⟩)
  · rw [if_neg h]; exact .inr (.inr ⟨rfl, h⟩)

theorem Tb.err_ok {T : Tb} {id : Int} (h : T.err id = 0) : 1 ≤ id ∧ id ≤ T.n ∧ T.st id.toNat = 1 := by
  rcases T.err_cases id with ⟨_, h2⟩ | ⟨h1, _⟩ | ⟨h1, _⟩
  · exact h2
  · omega
  · omega

theorem Tb.begE_ok {T : Tb} {id : Int} (h : T.begE id = 0) : id = 0 ∨ (1 ≤ id ∧ id ≤ T.n ∧ T.st id.toNat = 1) := by
  unfold Tb.begE at h
  by_cases h0 : id = 0
  · exact .inl h0
  · rw [if_neg h0] at h; exact .inr (Tb.err_ok h)

theorem Tb.Ok.stp {T : Tb} (h : T.Ok) (kind id : Int) : (T.stp kind id).Ok := by
  unfold Tb.stp
  split
  · unfold Tb.begT
    split
    · next he =>
      rcases Tb.begE_ok he with rfl | ⟨h1, h2, h3⟩
      · exact h.add (Nat.zero_le _) (fun h => absurd rfl h)
      · exact h.add (by omega) (fun _ => h3)
    · exact h
  · split
    · unfold Tb.comT
      split
      · exact h.com _
      · exact h
    · unfold Tb.aboT
      split
      · exact h.fin (by omega)
      · exact h

theorem Tb.com_n (T : Tb) (id : Nat) : (T.com id).n = T.n := by unfold Tb.com; split <;> rfl
theorem Tb.com_par (T : Tb) (id : Nat) : (T.com id).par = T.par := by unfold Tb.com; split <;> rfl
theorem Tb.com_top (T : Tb) (id : Nat) : (T.com id).top = T.top := by unfold Tb.com; split <;> rfl
theorem Tb.com_st (T : Tb) (id : Nat) : (T.com id).st = (T.fin id 2).st := by unfold Tb.com; split <;> rfl
theorem Tb.com_last (T : Tb) (id : Nat) : (T.com id).last ≤ T.last + 1 := by
  unfold Tb.com
  split
  · exact Nat.le_refl _
  · exact Nat.le_succ _

/-- How large a table is. -/
def Tb.Small (T : Tb) (B : Nat) : Prop := T.n ≤ B ∧ T.last ≤ B

theorem Tb.Small.stp {T : Tb} {B : Nat} (h : T.Small B) (kind id : Int) : (T.stp kind id).Small (B + 1) := by
  unfold Tb.stp
  obtain ⟨h1, h2⟩ := h
  split
  · unfold Tb.begT
    split
    · exact ⟨by show T.n + 1 ≤ B + 1; omega, by show T.last ≤ B + 1; omega⟩
    · exact ⟨by omega, by omega⟩
  · split
    · unfold Tb.comT
      split
      · have := T.com_last id.toNat
        exact ⟨by rw [Tb.com_n]; omega, by omega⟩
      · exact ⟨by omega, by omega⟩
    · unfold Tb.aboT
      split
      · exact ⟨by show T.n ≤ B + 1; omega, by show T.last ≤ B + 1; omega⟩
      · exact ⟨by omega, by omega⟩

end Go.Proofs.Ytbgnbaogclnpgaa
