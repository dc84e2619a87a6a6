/-
  What holds of a lock whatever is done to it; what the laws of stage 14 say of its lists.
-/
import Derived.Test.YtjjhmfpdbjflmaaPMath
namespace Go.Proofs.Ytjjhmfpdbjflmaa
open Go.RowKit
set_option linter.unusedVariables false
set_option linter.unusedSimpArgs false

structure Ok0 (A : Lk) : Prop where
  cls : A.c = 1 ∨ A.c = 2
  rise : RiseL (fsts A.hd)
  held : ∀ p ∈ A.hd, 1 ≤ p.1 ∧ I64 p.1 ∧ U16 p.2 ∧ p.2 ≠ 0 ∧ ∀ k : Nat, hasB p.2 k = true → mayB A.c (k : Int) = true
  wnd : (fsts A.wt).Nodup
  wts : ∀ p ∈ A.wt, 1 ≤ p.1 ∧ I64 p.1 ∧ mayB A.c p.2 = true
  go : ∀ p ∈ A.hd, ∀ q ∈ A.hd, p.1 ≠ q.1 → ∀ k : Nat, hasB q.2 k = true → goB A.c p.2 (k : Int) = true
  ncov : ∀ p ∈ A.wt, covB A.c (heldL A.hd p.1) p.2 = false

structure Ok (A : Lk) : Prop where
  ok : Ok0 A
  blk : ∀ pre r post, A.wt = pre ++ r :: post → forL A.c A.hd pre r.1 r.2 ≠ []

theorem has_zero (k : Nat) : hasB 0 k = false := by unfold hasB; exact Nat.zero_testBit _
theorem Ok.new {c : Int} (hc : c = 1 ∨ c = 2) : Ok (Lk.new c) :=
  ⟨⟨hc, List.Pairwise.nil, fun p hp => (by cases hp), List.Pairwise.nil, fun p hp => (by cases hp), fun p hp => (by cases hp), fun p hp => (by cases hp)⟩, fun pre r post e => by
    have : (Lk.new c).wt = [] := rfl
    rw [this] at e
    simp at e⟩
theorem may_u8 {c m : Int} (h : mayB c m = true) : U8 m := by have := may_8 h; unfold U8; omega
theorem fst_mem {l : PL} {p : Int × Int} (h : p ∈ l) : p.1 ∈ fsts l := List.mem_map.2 ⟨p, h, rfl⟩
theorem mem_fst {l : PL} {x : Int} (h : x ∈ fsts l) : ∃ m, (x, m) ∈ l := by
  obtain ⟨p, hp, rfl⟩ := List.mem_map.1 h
  exact ⟨p.2, hp⟩
theorem held_u16 {A : Lk} (h : Ok0 A) (x : Int) : U16 (heldL A.hd x) := by
  by_cases h0 : heldL A.hd x = 0
  · rw [h0]; exact u16_0
  · exact (h.held _ (held_mem h0)).2.2.1
theorem held_may {A : Lk} (h : Ok0 A) (x : Int) {k : Nat} (hk : hasB (heldL A.hd x) k = true) : mayB A.c (k : Int) = true := by
  by_cases h0 : heldL A.hd x = 0
  · rw [h0, has_zero] at hk; cases hk
  · exact (h.held _ (held_mem h0)).2.2.2.2 k hk
theorem held_in {A : Lk} (h : Ok0 A) {x : Int} : heldL A.hd x ≠ 0 ↔ x ∈ fsts A.hd := by
  constructor
  · intro h0; exact fst_mem (held_mem h0)
  · intro hx
    obtain ⟨m, hm⟩ := mem_fst hx
    rw [held_of h.rise hm]
    exact (h.held _ hm).2.2.2.1
theorem with_ne {c h m : Int} (hh : U16 h) (hm : mayB c m = true) : withN h m ≠ 0 := by
  intro e
  have := with_has hh.1 (may_u8 hm).1 m.toNat
  rw [e, has_zero] at this
  have h8 := may_8 hm
  simp [show m < 16 by omega] at this
  omega
theorem has_with {c h m : Int} (hh : U16 h) (hm : mayB c m = true) (k : Nat) : hasB (withN h m) k = true ↔ hasB h k = true ∨ m = (k : Int) := by
  rw [with_has hh.1 (may_u8 hm).1]
  have h8 := may_8 hm
  simp [show m < 16 by omega]
/-- What is held covers a mode of it. -/
theorem cov_self {c h m : Int} (hh : U16 h) (hm : mayB c m = true) : covB c (withN h m) m = true := by
  obtain ⟨x, rfl, hx⟩ := may_nat hm
  refine covB_iff.2 ⟨hm, fun j hj => ⟨x, hx, ?_, hj⟩⟩
  rw [has_with hh hm]
  exact .inr rfl
theorem go_sym {c m z : Int} (hm : mayB c m = true) (hz : mayB c z = true) (h : goB c (withN 0 m) z = true) : goB c (withN 0 z) m = true := by
  obtain ⟨x, rfl, hx⟩ := may_nat hm
  obtain ⟨y, rfl, hy⟩ := may_nat hz
  refine goB_iff.2 ⟨hm, fun k hk ho => ?_⟩
  rw [has_with u16_0 hz, has_zero] at hk
  rcases hk with hk | hk
  · cases hk
  · have hk' : y = k := by omega
    subst hk'
    rw [opp_sym hm hz] at ho
    exact (goB_iff.1 h).2 x (by rw [has_with u16_0 hm]; exact .inr rfl) ho

theorem Ok0.give {A : Lk} (h : Ok0 A) {x m : Int} (hx : 1 ≤ x) (hi : I64 x) (hm : mayB A.c m = true) (hf : ∀ p ∈ A.hd, p.1 ≠ x → goB A.c p.2 m = true) {wt' : PL} (hsub : wt'.Sublist A.wt) (hnx : x ∉ fsts wt') : Ok0 ⟨A.c, giveL A.hd x m, wt'⟩ := by
  have hu := held_u16 h x
  have hpn : ∀ p ∈ giveL A.hd x m, p = (x, withN (heldL A.hd x) m) ∨ (p ∈ A.hd ∧ p.1 ≠ x) := fun p hp => mem_give h.rise hp
  have hold : ∀ p ∈ A.hd, p.1 ≠ x → ∀ j : Nat, hasB p.2 j = true → ∀ k : Nat, hasB (heldL A.hd x) k = true → goB A.c p.2 (k : Int) = true ∧ goB A.c (heldL A.hd x) (j : Int) = true := by
    intro p hp hne j hj k hk
    have h0 : heldL A.hd x ≠ 0 := fun e => by rw [e, has_zero] at hk; cases hk
    exact ⟨h.go p hp _ (held_mem h0) hne k hk, h.go _ (held_mem h0) p hp (fun e => hne e.symm) j hj⟩
  refine ⟨h.cls, rise_give h.rise, fun p hp => ?_, h.wnd.sublist (hsub.map _), fun p hp => h.wts p (hsub.subset hp), fun p hp q hq hne k hk => ?_, fun p hp => ?_⟩
  · rcases hpn p hp with rfl | ⟨hp, _⟩
    · refine ⟨hx, hi, with_u16 hu (may_u8 hm).1, with_ne hu hm, fun k hk => ?_⟩
      rcases (has_with hu hm k).1 hk with hk | hk
      · exact held_may h x hk
      · rw [← hk]; exact hm
    · exact h.held p hp
  · rcases hpn p hp with rfl | ⟨hp', hpx⟩
    · rcases hpn q hq with rfl | ⟨hq', hqx⟩
      · exact (hne rfl).elim
      · have hmk : mayB A.c (k : Int) = true := (h.held q hq').2.2.2.2 k hk
        refine goB_iff.2 ⟨hmk, fun j hj ho => ?_⟩
        rcases (has_with hu hm j).1 hj with hj | hj
        · exact (goB_iff.1 (hold q hq' hqx k hk j hj).2).2 j hj ho
        · obtain ⟨z, rfl, hz⟩ := may_nat hm
          have hzj : z = j := by omega
          subst hzj
          rw [opp_sym hmk hm] at ho
          exact (goB_iff.1 (hf q hq' hqx)).2 k hk ho
    · rcases hpn q hq with rfl | ⟨hq', hqx⟩
      · rcases (has_with hu hm k).1 hk with hk | hk
        · have h0 : heldL A.hd x ≠ 0 := fun e => by rw [e, has_zero] at hk; cases hk
          exact h.go p hp' _ (held_mem h0) hpx k hk
        · rw [← hk]; exact hf p hp' hpx
      · exact h.go p hp' q hq' hne k hk
  · have hne : p.1 ≠ x := fun e => hnx (by rw [← e]; exact fst_mem hp)
    show covB A.c (heldL (giveL A.hd x m) p.1) p.2 = false
    rw [held_give _ _ _ _ h.rise, if_neg hne]
    exact h.ncov p (hsub.subset hp)

theorem Ok0.less {A : Lk} (h : Ok0 A) (x : Int) : Ok0 ⟨A.c, without A.hd x, without A.wt x⟩ := by
  refine ⟨h.cls, rise_without h.rise, fun p hp => h.held p (mem_without.1 hp).1, nodup_without h.wnd, fun p hp => h.wts p (mem_without.1 hp).1, fun p hp q hq => h.go p (mem_without.1 hp).1 q (mem_without.1 hq).1, fun p hp => ?_⟩
  show covB A.c (heldL (without A.hd x) p.1) p.2 = false
  rw [held_without, if_neg (mem_without.1 hp).2]
  exact h.ncov p (mem_without.1 hp).1

theorem nodup_mid {bef l : PL} {r : Int × Int} (h : (fsts (bef ++ r :: l)).Nodup) : r.1 ∉ fsts (bef ++ l) := by
  intro hr
  simp only [fsts, List.map_append, List.map_cons, List.nodup_append, List.nodup_cons, List.mem_append, List.mem_cons] at h hr
  obtain ⟨h1, ⟨h2, h3⟩, h4⟩ := h
  rcases hr with hr | hr
  · exact h4 r.1 hr r.1 (.inl rfl) rfl
  · exact h2 hr
theorem sub_mid (bef l : PL) (r : Int × Int) : (bef ++ l).Sublist (bef ++ r :: l) := (List.Sublist.refl bef).append (List.sublist_cons_self r l)

theorem Ok0.grant {c : Int} {hd bef l : PL} {r : Int × Int} (h : Ok0 ⟨c, hd, bef ++ r :: l⟩) (hf : forL c hd bef r.1 r.2 = []) : Ok0 ⟨c, giveL hd r.1 r.2, bef ++ l⟩ := by
  obtain ⟨h1, h2, h3⟩ := h.wts r (by simp)
  exact h.give h1 h2 h3 (forL_free.1 hf).1 (sub_mid bef l r) (nodup_mid h.wnd)

/-- What each grant keeps, all of them keep. -/
theorem settle_keep {c : Int} {P : List Int → PL → PL → Prop} (step : ∀ acc hd bef r l, P acc hd (bef ++ r :: l) → forL c hd bef r.1 r.2 = [] → P (acc ++ [r.1]) (giveL hd r.1 r.2) (bef ++ l)) :
    ∀ n acc hd wt, P acc hd wt → P (acc ++ (settleL c n hd wt).2.2) (settleL c n hd wt).1 (settleL c n hd wt).2.1
  | 0, acc, hd, wt, h => by simpa [settleL] using h
  | n + 1, acc, hd, wt, h => by
    unfold settleL
    cases e : firstU c hd [] wt with
    | none => simpa using h
    | some x =>
      obtain ⟨bef, r, l⟩ := x
      obtain ⟨e1, e2⟩ := firstU_some e
      rw [List.nil_append] at e1
      subst e1
      have := settle_keep step n _ _ _ (step acc hd bef r l h e2)
      rw [List.append_assoc] at this
      simpa using this
theorem settle_blk {c : Int} : ∀ n hd wt, wt.length ≤ n → ∀ pre r post, (settleL c n hd wt).2.1 = pre ++ r :: post → forL c (settleL c n hd wt).1 pre r.1 r.2 ≠ []
  | 0, hd, wt, hn, pre, r, post, e => by
    have : wt = [] := List.eq_nil_of_length_eq_zero (by omega)
    subst this
    simp [settleL] at e
  | n + 1, hd, wt, hn, pre, r, post, e => by
    unfold settleL at e ⊢
    cases e1 : firstU c hd [] wt with
    | none =>
      rw [e1] at e
      have := firstU_none e1 pre r post e
      simpa using this
    | some x =>
      obtain ⟨b, q, l⟩ := x
      rw [e1] at e
      obtain ⟨e2, _⟩ := firstU_some e1
      have hl : wt.length = (b ++ q :: l).length := by rw [← e2]; simp
      simp only [List.length_append, List.length_cons] at hl
      exact settle_blk n _ _ (by simp; omega) pre r post e
theorem settle_len (c : Int) (n : Nat) (hd wt : PL) : (settleL c n hd wt).1.length + (settleL c n hd wt).2.1.length ≤ hd.length + wt.length := by
  refine settle_keep (c := c) (P := fun _ h w => h.length + w.length ≤ hd.length + wt.length) (fun acc h bef r l hp _ => ?_) n [] hd wt (Nat.le_refl _)
  have := give_len h r.1 r.2
  simp only [List.length_append, List.length_cons] at hp ⊢
  omega
theorem settle_glen (c : Int) (n : Nat) (hd wt : PL) : (settleL c n hd wt).2.2.length + (settleL c n hd wt).2.1.length ≤ wt.length := by
  have := settle_keep (c := c) (P := fun a h w => a.length + w.length ≤ wt.length) (fun acc h bef r l hp _ => by
    simp only [List.length_append, List.length_cons, List.length_nil] at hp ⊢
    omega) n [] hd wt (by simp)
  simpa using this

theorem Ok0.settle {A : Lk} (h : Ok0 A) (n : Nat) (hn : A.wt.length ≤ n) : Ok ⟨A.c, (settleL A.c n A.hd A.wt).1, (settleL A.c n A.hd A.wt).2.1⟩ :=
  ⟨settle_keep (c := A.c) (P := fun _ hd wt => Ok0 ⟨A.c, hd, wt⟩) (fun _ _ _ _ _ hp hf => hp.grant hf) n [] _ _ h, settle_blk n _ _ hn⟩

theorem Ok.drop {A : Lk} (h : Ok A) (x : Int) : Ok (A.drop x) := by
  unfold Lk.drop
  split
  · exact h
  · exact (h.ok.less x).settle _ (Nat.le_refl _)
theorem drop_len (A : Lk) (x : Int) : (A.drop x).hd.length + (A.drop x).wt.length ≤ A.hd.length + A.wt.length := by
  unfold Lk.drop
  split
  · exact Nat.le_refl _
  · have h1 := settle_len A.c (without A.wt x).length (without A.hd x) (without A.wt x)
    have := without_len A.hd x
    have := without_len A.wt x
    show (A.dropS x).1.length + (A.dropS x).2.1.length ≤ _
    unfold Lk.dropS
    omega
theorem drop_c (A : Lk) (x : Int) : (A.drop x).c = A.c := by unfold Lk.drop; split <;> rfl
theorem ask_c (A : Lk) (x m : Int) : (A.ask x m).c = A.c := by unfold Lk.ask; repeat' split <;> try rfl
theorem ask_len (A : Lk) (x m : Int) : (A.ask x m).hd.length + (A.ask x m).wt.length ≤ A.hd.length + A.wt.length + 1 := by
  unfold Lk.ask
  split
  · omega
  · split
    · omega
    · split
      · omega
      · split
        · have := give_len A.hd x m; show (giveL A.hd x m).length + A.wt.length ≤ _; omega
        · simp; omega

theorem append_mid {α : Type} {l : List α} {a : α} {pre post : List α} {r : α} (e : l ++ [a] = pre ++ r :: post) : (∃ post', l = pre ++ r :: post' ∧ post = post' ++ [a]) ∨ (pre = l ∧ r = a ∧ post = []) := by
  rcases List.eq_nil_or_concat post with rfl | ⟨post', b, rfl⟩
  · have := List.append_inj' e (by simp)
    right
    exact ⟨this.1.symm, (by simpa using this.2.symm), rfl⟩
  · left
    rw [List.concat_eq_append] at e ⊢
    have e2 : l ++ [a] = (pre ++ r :: post') ++ [b] := by rw [e]; simp
    have := List.append_inj' e2 (by simp)
    exact ⟨post', this.1, by rw [show b = a by simpa using this.2.symm]⟩

theorem Ok.ask {A : Lk} (h : Ok A) {x m : Int} (hi : I64 x) : Ok (A.ask x m) := by
  unfold Lk.ask
  split
  · exact h
  · rename_i h1
    have hx : 1 ≤ x := by omega
    have hm : mayB A.c m = true := by cases hh : mayB A.c m with
      | true => rfl
      | false => exact absurd (.inr hh) h1
    split
    · exact h
    · rename_i h2
      have h2' : covB A.c (heldL A.hd x) m = false := by simpa using h2
      split
      · exact h
      · rename_i h3
        split
        · rename_i h4
          have hf := forL_free.1 h4
          refine ⟨h.ok.give hx hi hm hf.1 (List.Sublist.refl _) h3, fun pre r post e hn => ?_⟩
          have hb := h.blk pre r post e
          apply hb
          rw [forL_free] at hn ⊢
          have hrx : r.1 ≠ x := fun e2 => h3 (by rw [← e2, e]; exact fst_mem (by simp))
          obtain ⟨n1, n2⟩ := hn
          have hxr : x ≠ r.1 := fun e => hrx e.symm
          refine ⟨fun p hp hne => ?_, fun h0 p hp hne => ?_⟩
          · by_cases hpx : p.1 = x
            · -- the holder's modes have grown
              have hp2 : heldL A.hd x = p.2 := by rw [← hpx]; exact held_of h.ok.rise hp
              have hin : (x, withN p.2 m) ∈ giveL A.hd x m := by
                have hg := held_give A.hd x m x h.ok.rise
                rw [if_pos rfl, hp2] at hg
                rw [← hg]
                exact held_mem (by rw [hg]; exact with_ne (h.ok.held p hp).2.2.1 hm)
              have := n1 _ hin hxr
              have hu := (h.ok.held p hp).2.2.1
              refine goB_iff.2 ⟨(goB_iff.1 this).1, fun k hk ho => (goB_iff.1 this).2 k ((has_with hu hm k).2 (.inl hk)) ho⟩
            · refine n1 p ?_ hne
              have hg := held_give A.hd x m p.1 h.ok.rise
              rw [if_neg hpx, held_of h.ok.rise hp] at hg
              have := held_mem (l := giveL A.hd x m) (x := p.1) (by rw [hg]; exact (h.ok.held p hp).2.2.2.1)
              rw [hg] at this
              exact this
          · refine n2 ?_ p hp hne
            show heldL (giveL A.hd x m) r.1 = 0
            rw [held_give _ _ _ _ h.ok.rise, if_neg hrx]
            exact h0
        · rename_i h4
          refine ⟨⟨h.ok.cls, h.ok.rise, h.ok.held, ?_, fun p hp => ?_, h.ok.go, fun p hp => ?_⟩, fun pre r post e => ?_⟩
          · simp only [fsts, List.map_append, List.map_cons, List.map_nil]
            rw [List.nodup_append]
            exact ⟨h.ok.wnd, by simp, fun a ha b hb e => by rw [List.mem_singleton] at hb; subst hb; exact h3 (e ▸ ha)⟩
          · rcases List.mem_append.1 hp with hp | hp
            · exact h.ok.wts p hp
            · rw [List.mem_singleton] at hp; subst hp; exact ⟨hx, hi, hm⟩
          · rcases List.mem_append.1 hp with hp | hp
            · exact h.ok.ncov p hp
            · rw [List.mem_singleton] at hp; subst hp; exact h2'
          · rcases append_mid e with ⟨post', e', _⟩ | ⟨rfl, rfl, _⟩
            · exact h.blk pre r post' e'
            · exact h4

/-! ### To let go takes nothing from anybody else -/

structure Else (c : Int) (x : Int) (hd0 wt0 : PL) (acc : List Int) (hd wt : PL) : Prop where
  ok : Ok0 ⟨c, hd, wt⟩
  more : ∀ y k, y ≠ x → hasB (heldL hd0 y) k = true → hasB (heldL hd y) k = true
  got : ∀ g ∈ acc, ∃ m, (g, m) ∈ wt0 ∧ covB c (heldL hd g) m = true ∧ g ∉ fsts wt
  all : ∀ q ∈ wt0, q.1 ≠ x → q.1 ∈ fsts wt ∨ q.1 ∈ acc
  sub : wt.Sublist wt0
  no : heldL hd x = 0 ∧ x ∉ fsts wt ∧ x ∉ acc

theorem Ok.else {A : Lk} (h : Ok A) {x : Int} (hx : 1 ≤ x) : Else A.c x A.hd A.wt (A.dropG x) (A.drop x).hd (A.drop x).wt := by
  have hn : ¬ x < 1 := by omega
  unfold Lk.dropG Lk.drop
  rw [if_neg hn, if_neg hn]
  unfold Lk.dropS
  have := settle_keep (c := A.c) (P := Else A.c x A.hd A.wt) (fun acc hd bef r l hp hf => ?_) (without A.wt x).length [] (without A.hd x) (without A.wt x) ?_
  · simpa using this
  · have hrx : r.1 ≠ x := fun e => hp.no.2.1 (by rw [← e]; exact fst_mem (by simp))
    have hrw : r.1 ∉ fsts (bef ++ l) := nodup_mid hp.ok.wnd
    have hu := held_u16 hp.ok r.1
    have hm : mayB A.c r.2 = true := (hp.ok.wts r (by simp)).2.2
    refine ⟨hp.ok.grant hf, fun y k hy hk => ?_, fun g hg => ?_, fun q hq hqx => ?_, (sub_mid bef l r).trans hp.sub, ?_, fun hh => hp.no.2.1 (((sub_mid bef l r).map Prod.fst).subset hh), fun hh => ?_⟩
    · rw [held_give _ _ _ _ hp.ok.rise]
      split
      · rename_i e; subst e; exact (has_with hu hm k).2 (.inl (hp.more _ k hy hk))
      · exact hp.more y k hy hk
    · rcases List.mem_append.1 hg with hg | hg
      · obtain ⟨m, h1, h2, h3⟩ := hp.got g hg
        have hgr : g ≠ r.1 := fun e => h3 (by rw [e]; exact fst_mem (by simp))
        exact ⟨m, h1, by rw [held_give _ _ _ _ hp.ok.rise, if_neg hgr]; exact h2, fun hh => h3 (((sub_mid bef l r).map Prod.fst).subset hh)⟩
      · rw [List.mem_singleton] at hg
        subst hg
        exact ⟨r.2, hp.sub.subset (by simp), by rw [held_give _ _ _ _ hp.ok.rise, if_pos rfl]; exact cov_self hu hm, hrw⟩
    · rcases hp.all q hq hqx with h1 | h1
      · by_cases e : q.1 = r.1
        · right; simp [e]
        · left
          simp only [fsts, List.map_append, List.map_cons, List.mem_append, List.mem_cons] at h1 ⊢
          rcases h1 with h1 | h1 | h1
          · exact .inl h1
          · exact absurd h1 e
          · exact .inr h1
      · right; simp [h1]
    · rw [held_give _ _ _ _ hp.ok.rise, if_neg (fun e => hrx e.symm)]; exact hp.no.1
    · rcases List.mem_append.1 hh with hh | hh
      · exact hp.no.2.2 hh
      · rw [List.mem_singleton] at hh; exact hrx hh.symm
  · refine ⟨h.ok.less x, fun y k hy hk => by rw [held_without, if_neg hy]; exact hk, fun g hg => (by cases hg), fun q hq hqx => .inl (fsts_without.2 ⟨fst_mem hq, hqx⟩), sub_without _ _, by rw [held_without, if_pos rfl], fun hh => (fsts_without.1 hh).2 rfl, fun hh => (by cases hh)⟩

theorem Ok.settled {A : Lk} (h : Ok A) : ∀ n, settleL A.c n A.hd A.wt = (A.hd, A.wt, [])
  | 0 => rfl
  | n + 1 => by
    have hn : firstU A.c A.hd [] A.wt = none := by
      cases e : firstU A.c A.hd [] A.wt with
      | none => rfl
      | some x =>
        obtain ⟨b, r, l⟩ := x
        obtain ⟨e1, e2⟩ := firstU_some e
        exact (h.blk b r l (by simpa using e1) e2).elim
    unfold settleL
    rw [hn]
/-- Who neither holds it nor waits changes nothing. -/
theorem Ok.none {A : Lk} (h : Ok A) {x : Int} (h1 : x ∉ fsts A.hd) (h2 : x ∉ fsts A.wt) : A.drop x = A ∧ A.dropG x = [] := by
  unfold Lk.drop Lk.dropG Lk.dropS
  rw [without_none h1, without_none h2, h.settled]
  exact ⟨by split <;> rfl, by split <;> rfl⟩

/-! ### Finally -/

/-- x waits, in mode m; of those who are in its way, and still to be let go, rem has all; or x has it. -/
def EndI (A : Lk) (rem : List Int) (x m : Int) : Prop :=
  (∃ pre post, A.wt = pre ++ (x, m) :: post ∧ (∀ q ∈ pre, q.1 ∈ rem) ∧ ∀ p ∈ A.hd, p.1 ≠ x → p.1 ∈ rem ∨ (goB A.c p.2 m = true ∧ p.1 ∉ fsts A.wt)) ∨ (x ∉ fsts A.wt ∧ covB A.c (heldL A.hd x) m = true)

theorem EndI.start {A : Lk} {pre post : PL} {x m : Int} (e : A.wt = pre ++ (x, m) :: post) : EndI A (fsts A.hd ++ fsts pre) x m :=
  .inl ⟨pre, post, e, fun q hq => List.mem_append.2 (.inr (fst_mem hq)), fun p hp _ => .inl (List.mem_append.2 (.inl (fst_mem hp)))⟩
theorem EndI.skip {A : Lk} (h : Ok A) {rem : List Int} {x m : Int} (H : EndI A (x :: rem) x m) : EndI A rem x m := by
  rcases H with ⟨pre, post, e, h1, h2⟩ | H
  · have hnd := h.ok.wnd
    rw [e] at hnd
    have hx := nodup_mid hnd
    refine .inl ⟨pre, post, e, fun q hq => ?_, fun p hp hne => ?_⟩
    · rcases List.mem_cons.1 (h1 q hq) with e2 | h3
      · exact (hx (by show x ∈ _; rw [← e2]; exact fst_mem (List.mem_append.2 (.inl hq)))).elim
      · exact h3
    · rcases h2 p hp hne with h3 | h3
      · rcases List.mem_cons.1 h3 with e2 | h3
        · exact (hne e2).elim
        · exact .inl h3
      · exact .inr h3
  · exact .inr H
theorem EndI.fin {A : Lk} (h : Ok A) {x m : Int} (H : EndI A [] x m) : x ∉ fsts A.wt ∧ covB A.c (heldL A.hd x) m = true := by
  rcases H with ⟨pre, post, e, h1, h2⟩ | H
  · exfalso
    refine h.blk pre (x, m) post e (forL_free.2 ⟨fun p hp hne => ?_, fun _ p hp _ => ?_⟩)
    · rcases h2 p hp hne with h3 | h3
      · cases h3
      · exact h3.1
    · have := h1 p hp; cases this
  · exact H

theorem mid_split {α : Type} {bef l pre post : List α} {r a : α} (e : bef ++ r :: l = pre ++ a :: post) : (∃ q, pre = bef ++ r :: q ∧ l = q ++ a :: post) ∨ (bef = pre ∧ r = a ∧ l = post) ∨ (∃ q, bef = pre ++ a :: q ∧ post = q ++ r :: l) := by
  rcases List.append_eq_append_iff.1 e with ⟨a', h1, h2⟩ | ⟨c', h1, h2⟩
  · cases a' with
    | nil =>
      simp at h1 h2
      exact .inr (.inl ⟨h1.symm, h2.1, h2.2⟩)
    | cons y ys =>
      rw [List.cons_append] at h2
      injection h2 with h3 h4
      subst h3
      exact .inl ⟨ys, h1, h4⟩
  · cases c' with
    | nil =>
      simp at h1 h2
      exact .inr (.inl ⟨h1, h2.1.symm, h2.2.symm⟩)
    | cons y ys =>
      rw [List.cons_append] at h2
      injection h2 with h3 h4
      subst h3
      exact .inr (.inr ⟨ys, h1, h4⟩)

theorem EndI.drop {A : Lk} (h : Ok A) {rem : List Int} {x m y : Int} (hy : 1 ≤ y) (hne : y ≠ x) (H : EndI A (y :: rem) x m) : EndI (A.drop y) rem x m := by
  have hn : ¬ y < 1 := by omega
  unfold Lk.drop
  rw [if_neg hn]
  unfold Lk.dropS
  have := settle_keep (c := A.c) (P := fun _ hd wt => Ok0 ⟨A.c, hd, wt⟩ ∧ EndI ⟨A.c, hd, wt⟩ rem x m) (fun acc hd bef r l hp hf => ?_) (without A.wt y).length [] (without A.hd y) (without A.wt y) ?_
  · exact this.2
  · obtain ⟨h0, hp⟩ := hp
    refine ⟨h0.grant hf, ?_⟩
    have hrw : r.1 ∉ fsts (bef ++ l) := nodup_mid h0.wnd
    have hu := held_u16 h0 r.1
    have hm : mayB A.c r.2 = true := (h0.wts r (by simp)).2.2
    rcases hp with ⟨pre, post, e, h1, h2⟩ | ⟨h1, h2⟩
    · have e : bef ++ r :: l = pre ++ (x, m) :: post := e
      have hmx : mayB A.c m = true := (h0.wts (x, m) (by show (x, m) ∈ bef ++ r :: l; rw [e]; simp)).2.2
      rcases mid_split e with ⟨q, rfl, rfl⟩ | ⟨rfl, rfl, rfl⟩ | ⟨q, rfl, rfl⟩
      · -- one ahead of x
        refine .inl ⟨bef ++ q, post, by simp, fun s hs => h1 s (by rcases List.mem_append.1 hs with hs | hs <;> simp [hs]), fun p hp hpx => ?_⟩
        rcases mem_give h0.rise hp with rfl | ⟨hp, hpr⟩
        · exact .inl (h1 r (by simp))
        · rcases h2 p hp hpx with h3 | ⟨h3, h4⟩
          · exact .inl h3
          · exact .inr ⟨h3, fun hh => h4 (((sub_mid bef (q ++ (x, m) :: post) r).map Prod.fst).subset hh)⟩
      · -- x itself
        exact .inr ⟨hrw, by show covB A.c (heldL (giveL hd x m) x) m = true; rw [held_give _ _ _ _ h0.rise, if_pos rfl]; exact cov_self hu hm⟩
      · -- one behind x
        have hxr : x ≠ r.1 := by
          intro e2
          exact hrw (by rw [← e2]; exact fst_mem (p := (x, m)) (by simp))
        refine .inl ⟨pre, q ++ l, by simp, h1, fun p hp hpx => ?_⟩
        rcases mem_give h0.rise hp with rfl | ⟨hp, hpr⟩
        · by_cases hz : heldL hd r.1 = 0
          · right
            have hg := (forL_free.1 hf).2 hz (x, m) (by simp) hxr
            refine ⟨?_, hrw⟩
            show goB A.c (withN (heldL hd r.1) r.2) m = true
            rw [hz]
            exact go_sym hmx hm hg
          · rcases h2 _ (held_mem hz) (fun e => hxr e.symm) with h3 | ⟨h3, h4⟩
            · exact .inl h3
            · exact (h4 (fst_mem (l := (pre ++ (x, m) :: q) ++ r :: l) (p := r) (by simp))).elim
        · rcases h2 p hp hpx with h3 | ⟨h3, h4⟩
          · exact .inl h3
          · exact .inr ⟨h3, fun hh => h4 (((sub_mid _ l r).map Prod.fst).subset hh)⟩
    · -- x has it
      have hxr : x ≠ r.1 := fun e => h1 (by rw [e]; exact fst_mem (l := bef ++ r :: l) (by simp))
      refine .inr ⟨fun hh => h1 (((sub_mid bef l r).map Prod.fst).subset hh), ?_⟩
      show covB A.c (heldL (giveL hd r.1 r.2) x) m = true
      rw [held_give _ _ _ _ h0.rise, if_neg hxr]
      exact h2
  · refine ⟨h.ok.less y, ?_⟩
    rcases H with ⟨pre, post, e, h1, h2⟩ | ⟨h1, h2⟩
    · have hsplit : without A.wt y = without pre y ++ (x, m) :: without post y := by
        rw [e]
        unfold without
        rw [List.filter_append, List.filter_cons_of_pos (by simp; exact fun e => hne e.symm)]
      refine .inl ⟨without pre y, without post y, hsplit, fun q hq => ?_, fun p hp hpx => ?_⟩
      · obtain ⟨q1, q2⟩ := mem_without.1 hq
        rcases List.mem_cons.1 (h1 q q1) with e2 | h3
        · exact (q2 e2).elim
        · exact h3
      · obtain ⟨q1, q2⟩ := mem_without.1 hp
        rcases h2 p q1 hpx with h3 | ⟨h3, h4⟩
        · rcases List.mem_cons.1 h3 with e2 | h3
          · exact (q2 e2).elim
          · exact .inl h3
        · exact .inr ⟨h3, fun hh => h4 (fsts_without.1 hh).1⟩
    · refine .inr ⟨fun hh => h1 (fsts_without.1 hh).1, ?_⟩
      show covB A.c (heldL (without A.hd y) x) m = true
      rw [held_without, if_neg (fun e => hne e.symm)]
      exact h2

/-- All who hold it, or wait, are still to be let go. -/
def AllI (A : Lk) (rem : List Int) : Prop := (∀ y ∈ fsts A.hd, y ∈ rem) ∧ ∀ y ∈ fsts A.wt, y ∈ rem
theorem AllI.start (A : Lk) : AllI A (fsts A.hd ++ fsts A.wt) := ⟨fun y hy => List.mem_append.2 (.inl hy), fun y hy => List.mem_append.2 (.inr hy)⟩
theorem AllI.fin {A : Lk} (H : AllI A []) : A.hd = [] ∧ A.wt = [] :=
  ⟨List.eq_nil_iff_forall_not_mem.2 fun p hp => absurd (H.1 p.1 (fst_mem hp)) List.not_mem_nil, List.eq_nil_iff_forall_not_mem.2 fun p hp => absurd (H.2 p.1 (fst_mem hp)) List.not_mem_nil⟩
theorem AllI.drop {A : Lk} (h : Ok A) {rem : List Int} {y : Int} (hy : 1 ≤ y) (H : AllI A (y :: rem)) : AllI (A.drop y) rem := by
  have hn : ¬ y < 1 := by omega
  unfold Lk.drop
  rw [if_neg hn]
  unfold Lk.dropS
  refine settle_keep (c := A.c) (P := fun _ hd wt => AllI ⟨A.c, hd, wt⟩ rem) (fun acc hd bef r l hp hf => ?_) (without A.wt y).length [] (without A.hd y) (without A.wt y) ?_
  · refine ⟨fun z hz => ?_, fun z hz => hp.2 z (((sub_mid bef l r).map Prod.fst).subset hz)⟩
    rcases fsts_give.1 hz with rfl | hz
    · exact hp.2 r.1 (fst_mem (l := bef ++ r :: l) (by simp))
    · exact hp.1 z hz
  · refine ⟨fun z hz => ?_, fun z hz => ?_⟩
    · obtain ⟨h1, h2⟩ := fsts_without.1 hz
      rcases List.mem_cons.1 (H.1 z h1) with e | h3
      · exact (h2 e).elim
      · exact h3
    · obtain ⟨h1, h2⟩ := fsts_without.1 hz
      rcases List.mem_cons.1 (H.2 z h1) with e | h3
      · exact (h2 e).elim
      · exact h3

/-! ### For whom one waits -/

def idxL : PL → Int → Nat
  | [], _ => 0
  | p :: l, x => if p.1 = x then 0 else idxL l x + 1
def Lk.whom (A : Lk) (x : Int) : List Int := if x ∈ fsts A.wt then forL A.c A.hd (A.wt.take (idxL A.wt x)) x (heldL A.wt x) else []
theorem idx_in : ∀ {l : PL} {x : Int}, x ∈ fsts l → idxL l x < l.length ∧ l[idxL l x]? = some (x, heldL l x) ∧ ∀ j : Nat, j < idxL l x → ∀ p, l[j]? = some p → p.1 ≠ x
  | [], x, h => by cases h
  | p :: l, x, h => by
    unfold idxL heldL
    split
    · rename_i e
      subst e
      exact ⟨by simp, rfl, fun j hj => absurd hj (Nat.not_lt_zero j)⟩
    · rename_i e
      have hx : x ∈ fsts l := by
        rcases List.mem_cons.1 h with e2 | h
        · exact (e e2.symm).elim
        · exact h
      obtain ⟨h1, h2, h3⟩ := idx_in hx
      refine ⟨by simp; omega, by simpa using h2, fun j hj q hq => ?_⟩
      cases j with
      | zero => simp at hq; subst hq; exact e
      | succ j => exact h3 j (by omega) q (by simpa using hq)
theorem idx_get {l : PL} (h : (fsts l).Nodup) {i : Nat} {p : Int × Int} (hp : l[i]? = some p) : idxL l p.1 = i ∧ heldL l p.1 = p.2 := by
  have hx : p.1 ∈ fsts l := fst_mem (List.mem_of_getElem? hp)
  obtain ⟨h1, h2, h3⟩ := idx_in hx
  have hi := (List.getElem?_eq_some_iff.1 hp).1
  have e : idxL l p.1 = i := by
    have hf1 : (fsts l)[idxL l p.1]? = some p.1 := by unfold fsts; rw [List.getElem?_map, h2]; rfl
    have hf2 : (fsts l)[i]? = some p.1 := by unfold fsts; rw [List.getElem?_map, hp]; rfl
    exact (List.getElem?_inj (by unfold fsts; simpa using h1) h).1 (hf1.trans hf2.symm)
  refine ⟨e, ?_⟩
  rw [e, hp] at h2
  have := Option.some.inj h2
  exact (congrArg Prod.snd this).symm
/-- Who waits waits for somebody, who holds it or waits ahead. -/
theorem Ok.whom {A : Lk} (h : Ok A) {i : Nat} {p : Int × Int} (hp : A.wt[i]? = some p) : A.whom p.1 ≠ [] ∧ ∀ y ∈ A.whom p.1, y ≠ p.1 ∧ (y ∈ fsts A.hd ∨ y ∈ fsts (A.wt.take i)) := by
  have hx : p.1 ∈ fsts A.wt := fst_mem (List.mem_of_getElem? hp)
  obtain ⟨e1, e2⟩ := idx_get h.ok.wnd hp
  have hi := (List.getElem?_eq_some_iff.1 hp).1
  have hsplit : A.wt = A.wt.take i ++ p :: A.wt.drop (i + 1) := by
    have hgi : A.wt[i] = p := (List.getElem?_eq_some_iff.1 hp).2
    rw [← hgi, ← List.drop_eq_getElem_cons hi, List.take_append_drop]
  unfold Lk.whom
  rw [if_pos hx, e1, e2]
  refine ⟨h.blk _ p _ hsplit, fun y hy => ?_⟩
  rw [mem_forL] at hy
  unfold allB at hy
  rcases List.mem_append.1 hy with hy | hy
  · obtain ⟨q, hq, rfl, hne, _⟩ := mem_blkH.1 hy
    exact ⟨hne, .inl (fst_mem hq)⟩
  · split at hy
    · obtain ⟨q, hq, rfl, hne, _⟩ := mem_blkW.1 hy
      exact ⟨hne, .inr (fst_mem hq)⟩
    · cases hy

end Go.Proofs.Ytjjhmfpdbjflmaa
