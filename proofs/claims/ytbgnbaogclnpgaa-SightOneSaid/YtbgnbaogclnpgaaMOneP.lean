/-
  What lies beside the heap and the table: the law's own books (stage 12).
-/
import Derived.Test.YtbgnbaogclnpgaaMOneV
import Derived.Test.YtbgnbaogclnpgaaMAwake
import Derived.Test.YtbgnbaogclnpgaaHEnter
import Derived.Deep.RegionHeld3
namespace Go.Proofs.Ytbgnbaogclnpgaa
open Go.RowKit
set_option linter.unusedVariables false

/-! ### Rows and maps -/
section
variable {e : TypeId} {m : Nat} {W W' : World} {n : Nat} {f : Nat → List Value}
theorem RowF.cut {b c k : Nat} (h : RowF e m W (.slice (some ⟨b, 0, none⟩) n c) n f) (hk : k ≤ n) : RowF e m W (.slice (some ⟨b, 0, none⟩) k c) k f := by
  obtain ⟨⟨xs, ⟨l1, h1⟩, h2⟩, h3⟩ := h
  rcases h1 with ⟨e1, -⟩ | ⟨b', cap, cur, e1, hb, hg, hnc, hcm, hcs, hx⟩
  · cases e1
  · have hkm : k * m ≤ n * m := Nat.mul_le_mul_right _ hk
    cases e1
    refine ⟨⟨xs.take (k * m), ⟨?_, .inr ⟨b, c, cur, rfl, hb, hg, by omega, hcm, hcs, ?_⟩⟩, fun j hj o v hv => ?_⟩, fun j hj => h3 j (by omega)⟩
    · rw [List.length_take, l1]; omega
    · rw [← hx, List.take_take, Nat.min_eq_left hkm]
    · have ho : o < m := by have := (List.getElem?_eq_some_iff.1 hv).1; rwa [h3 j (by omega)] at this
      have hlt : j * m + o < k * m := by
        calc j * m + o < j * m + m := by omega
          _ = (j + 1) * m := by rw [Nat.add_mul, Nat.one_mul]
          _ ≤ k * m := Nat.mul_le_mul_right _ hj
      rw [List.getElem?_take, if_pos hlt]
      exact h2 j (by omega) o v hv
theorem RowF.lit1 (W : World) (e : TypeId) (v : Value) : RowF e 1 (W.alloc (.cells #[v] e)) (.slice (some ⟨W.heap.size, 0, none⟩) 1 1) 1 (fun _ => [v]) := by
  have h := World.ownsRow_lit (e := e) (size := 1) (base := 0) W #[v] 1 (Nat.zero_le _) (by unfold maxLen; omega) rfl
  refine ⟨⟨_, h, fun j hj o u hu => ?_⟩, fun j hj => rfl⟩
  have h0 : j = 0 := by omega
  subst h0
  rw [Nat.zero_mul, Nat.zero_add]
  exact hu
end

/-- v, ok := m[x]. -/
theorem MapF.look2 {W : World} {b n : Nat} {f : Int → Option Value} (h : MapF W b n f) {t e : TypeId} (ht : Try.prog.underlying t = some (.map 3 e)) {z : Value} (hz : (zeroValue e).run Try.prog W = .ok z W) {x : Int} (hx : I64 x) :
    (Instr.lookup t (.map (some b)) (.int .i64 x) true).run Try.prog W = .ok (.tuple #[(f x).getD z, .bool (f x).isSome]) W := by
  obtain ⟨D, h1, h2⟩ := h
  obtain ⟨v, ps, hrun, hv⟩ := h1.look_ok (zd := .held z) (zp := []) lawI ht hz rfl (keyI hx)
  have hv' : DataW.held v = D.atKey (.int .i64 x) (.held z) := by
    unfold KR at hv
    simp only [Option.some.injEq, Prod.mk.injEq] at hv
    exact hv.1
  obtain ⟨h3, h4⟩ := h2 x hx
  rw [h3] at hrun
  cases hf : f x with
  | none =>
    rw [hf] at h3 hrun
    rw [Maps.atKey_of_not_has (by rw [h3]; rfl)] at hv'
    have hv' := DataW.held.inj hv'
    rw [hrun, hv']
    rfl
  | some u =>
    rw [hf] at hrun
    rw [h4 u _ hf] at hv'
    have hv' := DataW.held.inj hv'
    rw [hrun, hv']
    rfl

/-! ### The books -/

/-- What a block is for. -/
inductive Lb | no | wri | com | kep | snp | who | sub (k : Nat) | wro (k : Nat) | mp (k j : Nat)
/-- It is the session's (all share the block of who). -/
def Lb.mine (k : Nat) : Lb → Bool
  | .who => true
  | .sub j => decide (j = k)
  | .wro j => decide (j = k)
  | .mp j _ => decide (j = k)
  | _ => false

def four (f : Int → Int) : List Value := [.int .i64 (f 1), .int .i64 (f 2), .int .i64 (f 3), .int .i64 (f 4)]
def whoC (ss : Nat → List Int) (sv wv : Nat → Value) : List Value := [.int .i64 ((ss 0).headD 0), sv 0, wv 0, .int .i64 ((ss 1).headD 0), sv 1, wv 1, .int .i64 ((ss 2).headD 0), sv 2, wv 2]
def mapV (P : Int → List Wt) (s : Int) : Int → Option Value := fun x => (lastBy s (P (x + 1))).map (Value.int .i64)
def mbV (mb : Nat → Nat) (j : Nat) : List Value := [.map (some (mb j))]
def updV (f : Nat → Value) (k : Nat) (v : Value) : Nat → Value := fun j => if j = k then v else f j
theorem updV_at (f : Nat → Value) (k : Nat) (v : Value) : updV f k v k = v := by unfold updV; rw [if_pos rfl]
theorem updV_ne (f : Nat → Value) {k j : Nat} (v : Value) (h : j ≠ k) : updV f k v j = f j := by unfold updV; rw [if_neg h]

/-- The list of a session's transactions. -/
structure SubAt (L : Nat → Lb) (W : World) (k : Nat) (l : List Int) (s : Value) : Prop where
  row : RowI W s l
  own : ∀ b, s.ownBlock = some b → L b = .sub k
/-- The list of the maps of what they wrote. -/
structure WroAt (L : Nat → Lb) (W : World) (m k : Nat) (l : List Int) (P : Int → List Wt) (v : Value) : Prop where
  row : ∃ mb : Nat → Nat, RowF 49 1 W v l.length (mbV mb) ∧ ∀ j, j < l.length → L (mb j) = .mp k j ∧ MapF W (mb j) m (mapV P (l.getD j 0))
  own : ∀ b, v.ownBlock = some b → L b = .wro k

theorem SubAt.stay {L L' : Nat → Lb} {W W' : World} {k : Nat} {l : List Int} {s : Value} (h : SubAt L W k l s) {G : Nat → Prop} (hs : Stay G W W') (hG : ∀ b, L b = .sub k → G b) (hL : ∀ b, L b = .sub k → L' b = .sub k) : SubAt L' W' k l s :=
  ⟨RowF.stay h.row hs (fun b hb => hG b (h.own b hb)), fun b hb => hL b (h.own b hb)⟩
theorem WroAt.stay {L L' : Nat → Lb} {W W' : World} {m m' k : Nat} {l : List Int} {P P' : Int → List Wt} {v : Value} (h : WroAt L W m k l P v) {G : Nat → Prop} (hs : Stay G W W') (hG : ∀ b, L b = .wro k ∨ (∃ j, L b = .mp k j) → G b) (hL : ∀ b, L b = .wro k ∨ (∃ j, L b = .mp k j) → L' b = L b) (hP : ∀ s ∈ l, ∀ y, lastBy s (P' y) = lastBy s (P y)) (hm : m ≤ m') : WroAt L' W' m' k l P' v := by
  obtain ⟨mb, h1, h2⟩ := h.row
  refine ⟨⟨mb, RowF.stay h1 hs (fun b hb => hG b (.inl (h.own b hb))), fun j hj => ?_⟩, fun b hb => by rw [hL b (.inl (h.own b hb))]; exact h.own b hb⟩
  obtain ⟨q1, q2⟩ := h2 j hj
  refine ⟨by rw [hL _ (.inr ⟨j, q1⟩)]; exact q1, ((q2.stay hs (hG _ (.inr ⟨j, q1⟩))).mono hm).congr fun x hx => ?_⟩
  unfold mapV
  rw [hP _ ?_]
  rw [List.getD_eq_getElem?_getD, List.getElem?_eq_getElem hj]
  exact List.getElem_mem hj

/-- The books, at their blocks. -/
structure Mb (L : Nat → Lb) (W : World) (h t gw gc gk gs gq m : Nat) (ss ws : Nat → List Int) (P : Int → List Wt) (f kept : Int → Int) (a : Int) (sv wv : Nat → Value) : Prop where
  lw : L gw = .wri
  lc : L gc = .com
  lk : L gk = .kep
  ls : L gs = .snp
  lq : L gq = .who
  wri : Lit W gw 31 (wriC h t)
  com : Lit W gc 32 (four f)
  kep : Lit W gk 32 (four kept)
  snp : Lit W gs 34 [.int .i64 a, .int .i64 0]
  who : Lit W gq 39 (whoC ss sv wv)
  sub : ∀ k, k < 3 → SubAt L W k (ss k) (sv k)
  wro : ∀ k, k < 3 → WroAt L W m k (ws k) P (wv k)

/-- All that the law keeps. -/
structure Me (L : Nat → Lb) (w0 W : World) (h t gw gc gk gs gq z m : Nat) (A : Ab) (T : Tb) (ss ws : Nat → List Int) (P : Int → List Wt) (f kept : Int → Int) (a : Int) (sv wv : Nat → Value) : Prop where
  duo : Duo (fun b => L b ≠ .no) w0 W h A z t T
  new : ∀ b, L b ≠ .no → w0.heap.size ≤ b
  mb : Mb L W h t gw gc gk gs gq m ss ws P f kept a sv wv

theorem mb_stay {L : Nat → Lb} {W W' : World} {h t gw gc gk gs gq m m' : Nat} {ss ws : Nat → List Int} {P : Int → List Wt} {f kept : Int → Int} {a : Int} {sv wv : Nat → Value} (H : Mb L W h t gw gc gk gs gq m ss ws P f kept a sv wv) (hs : Stay (fun b => L b ≠ .no) W W') (hm : m ≤ m') : Mb L W' h t gw gc gk gs gq m' ss ws P f kept a sv wv := by
  have hn : ∀ {b : Nat} {l : Lb}, L b = l → l ≠ .no → L b ≠ .no := fun e h2 => by rw [e]; exact h2
  exact ⟨H.lw, H.lc, H.lk, H.ls, H.lq, H.wri.stay hs (hn H.lw (by simp)), H.com.stay hs (hn H.lc (by simp)), H.kep.stay hs (hn H.lk (by simp)), H.snp.stay hs (hn H.ls (by simp)), H.who.stay hs (hn H.lq (by simp)),
    fun k hk => (H.sub k hk).stay hs (fun b e => hn e (by simp)) (fun b e => e),
    fun k hk => (H.wro k hk).stay hs (fun b e => e.elim (fun e => hn e (by simp)) (fun ⟨j, e⟩ => hn e (by simp))) (fun b e => rfl) (fun s hs y => rfl) hm⟩

/-- Blocks of X are written, others are new. -/
theorem Duo.grow {X X' F : Nat → Prop} {w0 w w' : World} {h z t : Nat} {A : Ab} {T : Tb} (H : Duo X w0 w h A z t T) (ht : Touch F w w') (hF : ∀ k, k < w.heap.size → F k → X k) (hX : ∀ k, X k → w0.heap.size ≤ k) (hX' : ∀ k, X' k → X k ∨ (w.heap.size ≤ k ∧ k < w'.heap.size)) : Duo X' w0 w' h A z t T := by
  obtain ⟨Fh, Ft, h1, h2, h3, h4, h5, h6, h7⟩ := H
  have ht' : Touch X w w' := ⟨ht.os, ht.tape, ht.output, ht.size, fun k hk hn => ht.block k hk (fun hf => hn (hF k hk hf))⟩
  refine ⟨Fh, Ft, h1.apart ht' (fun k hk hx => (h7 k hx).1 hk), h2.stay (ht'.stay (fun k hk hx => (h7 k hx).2.1 hk)), h3, h4, h5, h6.trans (ht'.below hX h6.size), fun k hk => ?_⟩
  rcases hX' k hk with hk | ⟨hk, hl⟩
  · exact ⟨(h7 k hk).1, (h7 k hk).2.1, Nat.lt_of_lt_of_le (h7 k hk).2.2 ht.size⟩
  · exact ⟨fun hf => by have := h1.lt k hf; omega, fun hf => by have := h2.lt k hf; omega, hl⟩

section
variable {L : Nat → Lb} {w0 W W' : World} {h t gw gc gk gs gq z m : Nat} {A : Ab} {T : Tb} {ss ws : Nat → List Int} {P : Int → List Wt} {f kept : Int → Int} {a : Int} {sv wv : Nat → Value}

theorem Me.below (H : Me L w0 W h t gw gc gk gs gq z m A T ss ws P f kept a sv wv) (hb : Below W.heap.size W W') : Me L w0 W' h t gw gc gk gs gq z m A T ss ws P f kept a sv wv :=
  ⟨H.duo.below hb, H.new, mb_stay H.mb (Stay.of_below hb) (Nat.le_refl _)⟩
theorem Me.more {z' m' : Nat} (H : Me L w0 W h t gw gc gk gs gq z m A T ss ws P f kept a sv wv) (hz : z ≤ z') (hm : m ≤ m') : Me L w0 W h t gw gc gk gs gq z' m' A T ss ws P f kept a sv wv :=
  ⟨H.duo.more hz, H.new, mb_stay H.mb (Stay.refl _ _) hm⟩
/-- A call that changes the heap, or the table. -/
theorem Me.turn {A' : Ab} {z' : Nat} {T' : Tb} (H : Me L w0 W h t gw gc gk gs gq z m A T ss ws P f kept a sv wv) (hd : Duo (fun b => L b ≠ .no) w0 W' h A' z' t T') (hs : Stay (fun b => L b ≠ .no) W W') : Me L w0 W' h t gw gc gk gs gq z' m A' T' ss ws P f kept a sv wv :=
  ⟨hd, H.new, mb_stay H.mb hs (Nat.le_refl _)⟩

/-- A session's own blocks are written, others are new. -/
theorem Me.ses (H : Me L w0 W h t gw gc gk gs gq z m A T ss ws P f kept a sv wv) {k : Nat} (hk : k < 3) {F : Nat → Prop} (ht : Touch F W W') (hF : ∀ b, b < W.heap.size → F b → (L b).mine k = true) {L' : Nat → Lb} (hL : ∀ b, L b ≠ .no → L' b = L b) (hL' : ∀ b, L' b ≠ .no → L b ≠ .no ∨ (W.heap.size ≤ b ∧ b < W'.heap.size))
    {P' : Int → List Wt} (hP : ∀ j, j < 3 → j ≠ k → ∀ s ∈ ws j, ∀ y, lastBy s (P' y) = lastBy s (P y)) {l l2 : List Int} {s v : Value} {m' : Nat} (hm : m ≤ m') (hw : Lit W' gq 39 (whoC (updS ss k l) (updV sv k s) (updV wv k v))) (h1 : SubAt L' W' k l s) (h2 : WroAt L' W' m' k l2 P' v) :
    Me L' w0 W' h t gw gc gk gs gq z m' A T (updS ss k l) (updS ws k l2) P' f kept a (updV sv k s) (updV wv k v) := by
  have hmine : ∀ b, (L b).mine k = true → L b ≠ .no := fun b hb e => by rw [e] at hb; cases hb
  have hs : Stay (fun b => L b ≠ .no ∧ (L b).mine k = false) W W' := ⟨ht.size, fun b hb hg => ht.block b hb (fun hf => by rw [hF b hb hf] at hg; cases hg.2)⟩
  have hn : ∀ {b : Nat} {l : Lb}, L b = l → l ≠ .no → l.mine k = false → L b ≠ .no ∧ (L b).mine k = false := fun e h2 h3 => by rw [e]; exact ⟨h2, h3⟩
  have hne : ∀ j, j ≠ k → decide (j = k) = false := fun j hj => decide_eq_false hj
  obtain ⟨b1, b2, b3⟩ := H
  refine ⟨b1.grow ht (fun b hb hf => hmine b (hF b hb hf)) b2 hL', fun b hb => ?_, ?_⟩
  · rcases hL' b hb with q | q
    · exact b2 b q
    · have := b1.bel.size; omega
  · refine ⟨(hL _ (by rw [b3.lw]; simp)).trans b3.lw, (hL _ (by rw [b3.lc]; simp)).trans b3.lc, (hL _ (by rw [b3.lk]; simp)).trans b3.lk, (hL _ (by rw [b3.ls]; simp)).trans b3.ls, (hL _ (by rw [b3.lq]; simp)).trans b3.lq,
      b3.wri.stay hs (hn b3.lw (by simp) rfl), b3.com.stay hs (hn b3.lc (by simp) rfl), b3.kep.stay hs (hn b3.lk (by simp) rfl), b3.snp.stay hs (hn b3.ls (by simp) rfl), hw, fun j hj => ?_, fun j hj => ?_⟩
    · by_cases e : j = k
      · subst e; rw [updS_at, updV_at]; exact h1
      · rw [updS_ne _ _ e, updV_ne _ _ e]
        exact (b3.sub j hj).stay hs (fun b q => hn q (by simp) (hne j e)) (fun b q => by rw [hL b (by rw [q]; simp)]; exact q)
    · by_cases e : j = k
      · subst e; rw [updS_at, updV_at]; exact h2
      · rw [updS_ne _ _ e, updV_ne _ _ e]
        exact (b3.wro j hj).stay hs (fun b q => q.elim (fun q => hn q (by simp) (hne j e)) (fun ⟨i, q⟩ => hn q (by simp) (hne j e))) (fun b q => hL b (q.elim (fun q => by rw [q]; simp) (fun ⟨i, q⟩ => by rw [q]; simp))) (hP j hj e) hm

/-- What is committed, kept, or the snapshot, is written. -/
theorem Me.own (H : Me L w0 W h t gw gc gk gs gq z m A T ss ws P f kept a sv wv) {F : Nat → Prop} (ht : Touch F W W') (hF : ∀ b, F b → L b = .com ∨ L b = .kep ∨ L b = .snp) {f' kept' : Int → Int} {a' : Int} (h1 : Lit W' gc 32 (four f')) (h2 : Lit W' gk 32 (four kept')) (h3 : Lit W' gs 34 [.int .i64 a', .int .i64 0]) :
    Me L w0 W' h t gw gc gk gs gq z m A T ss ws P f' kept' a' sv wv := by
  have hs : Stay (fun b => L b ≠ .no ∧ L b ≠ .com ∧ L b ≠ .kep ∧ L b ≠ .snp) W W' := ⟨ht.size, fun b hb hg => ht.block b hb (fun hf => (hF b hf).elim hg.2.1 (fun q => q.elim hg.2.2.1 hg.2.2.2))⟩
  have hn : ∀ {b : Nat} {l : Lb}, L b = l → (l ≠ .no ∧ l ≠ .com ∧ l ≠ .kep ∧ l ≠ .snp) → L b ≠ .no ∧ L b ≠ .com ∧ L b ≠ .kep ∧ L b ≠ .snp := fun e h2 => by rw [e]; exact h2
  obtain ⟨b1, b2, b3⟩ := H
  refine ⟨b1.grow ht (fun b _ hf => by rcases hF b hf with q | q | q <;> rw [q] <;> simp) b2 (fun b hb => .inl hb), b2, ?_⟩
  exact ⟨b3.lw, b3.lc, b3.lk, b3.ls, b3.lq, b3.wri.stay hs (hn b3.lw (by simp)), h1, h2, h3, b3.who.stay hs (hn b3.lq (by simp)),
    fun k hk => (b3.sub k hk).stay hs (fun b e => hn e (by simp)) (fun b e => e),
    fun k hk => (b3.wro k hk).stay hs (fun b e => e.elim (fun e => hn e (by simp)) (fun ⟨j, e⟩ => hn e (by simp))) (fun b e => rfl) (fun s hs y => rfl) (Nat.le_refl _)⟩
end

/-! ### Cells of who -/
def put3 (W : World) (g o : Nat) (a b c : Value) : World := ((W.setCell ⟨g, o, none⟩ a).setCell ⟨g, o + 1, none⟩ b).setCell ⟨g, o + 2, none⟩ c
theorem who_top {k : Nat} (hk : k < 3) (ss : Nat → List Int) (sv wv : Nat → Value) : (whoC ss sv wv)[k * 3]? = some (.int .i64 ((ss k).headD 0)) ∧ (whoC ss sv wv)[k * 3 + 1]? = some (sv k) ∧ (whoC ss sv wv)[k * 3 + 2]? = some (wv k) := by
  rcases (show k = 0 ∨ k = 1 ∨ k = 2 by omega) with rfl | rfl | rfl <;> exact ⟨rfl, rfl, rfl⟩
theorem who_set0 {k : Nat} (hk : k < 3) (ss : Nat → List Int) (sv wv : Nat → Value) {l : List Int} {x : Int} (hx : l.headD 0 = x) (s v : Value) : (((whoC ss sv wv).set (k * 3) (.int .i64 x)).set (k * 3 + 1) s).set (k * 3 + 2) v = whoC (updS ss k l) (updV sv k s) (updV wv k v) := by
  subst hx
  rcases (show k = 0 ∨ k = 1 ∨ k = 2 by omega) with rfl | rfl | rfl <;> rfl
theorem who_set1 {k : Nat} (hk : k < 3) (ss : Nat → List Int) (sv wv : Nat → Value) {l : List Int} (hx : l.headD 0 = (ss k).headD 0) (s : Value) : (whoC ss sv wv).set (k * 3 + 1) s = whoC (updS ss k l) (updV sv k s) (updV wv k (wv k)) := by
  unfold whoC
  rcases (show k = 0 ∨ k = 1 ∨ k = 2 by omega) with rfl | rfl | rfl <;> simp [updS, updV] <;> simpa using hx.symm
theorem who_set2 {k : Nat} (hk : k < 3) (ss : Nat → List Int) (sv wv : Nat → Value) (v : Value) : (whoC ss sv wv).set (k * 3 + 2) v = whoC (updS ss k (ss k)) (updV sv k (sv k)) (updV wv k v) := by
  unfold whoC
  rcases (show k = 0 ∨ k = 1 ∨ k = 2 by omega) with rfl | rfl | rfl <;> simp [updS, updV]
theorem updS_self (ss : Nat → List Int) (k : Nat) : updS ss k (ss k) = ss := by
  funext j; unfold updS; split
  · next e => rw [e]
  · rfl
theorem updV_self (f : Nat → Value) (k : Nat) : updV f k (f k) = f := by
  funext j; unfold updV; split
  · next e => rw [e]
  · rfl
theorem four_set {f : Int → Int} {r : Nat} (hr : r < 4) (n : Int) : (four f).set r (.int .i64 n) = four (fun y => if y = (r : Int) + 1 then n else f y) := by
  rcases (show r = 0 ∨ r = 1 ∨ r = 2 ∨ r = 3 by omega) with rfl | rfl | rfl | rfl <;> rfl
theorem four_at {f : Int → Int} {r : Nat} (hr : r < 4) : (four f)[r]? = some (.int .i64 (f ((r : Int) + 1))) := by
  rcases (show r = 0 ∨ r = 1 ∨ r = 2 ∨ r = 3 by omega) with rfl | rfl | rfl | rfl <;> rfl

end Go.Proofs.Ytbgnbaogclnpgaa

namespace Go.Proofs.Ytbgnbaogclnpgaa
open Go.RowKit
set_option linter.unusedVariables false

theorem iwrap {n : Int} (h0 : -9223372036854775808 ≤ n) (h1 : n ≤ 9223372036854775807) : IntKind.i64.wrap n = n := by rw [IntKind.wrap_i64]; omega
theorem touch_put3 (W : World) (g o : Nat) (a b c : Value) : Touch (fun k => k = g) W (put3 W g o a b c) := by
  unfold put3
  exact ((Touch.setCell W (F := fun k => k = g) rfl o a).trans (Touch.setCell _ (F := fun k => k = g) rfl (o + 1) b) (fun _ _ h => h)).trans (Touch.setCell _ (F := fun k => k = g) rfl (o + 2) c) (fun _ _ h => h)
theorem lit_put3 {W : World} {g : Nat} {e : TypeId} {cs : List Value} (h : Lit W g e cs) (o : Nat) (a b c : Value) : Lit (put3 W g o a b c) g e (((cs.set o a).set (o + 1) b).set (o + 2) c) := ((h.set o a).set (o + 1) b).set (o + 2) c

section
variable {L : Nat → Lb} {w0 W W' : World} {h t gw gc gk gs gq z m : Nat} {A : Ab} {T : Tb} {ss ws : Nat → List Int} {P : Int → List Wt} {f kept : Int → Int} {a : Int} {sv wv : Nat → Value}

theorem Me.lab (H : Me L w0 W h t gw gc gk gs gq z m A T ss ws P f kept a sv wv) {b : Nat} (hb : L b ≠ .no) : b < W.heap.size := by
  obtain ⟨Fh, Ft, h1, h2, h3, h4, h5, h6, h7⟩ := H.duo
  exact (h7 b hb).2.2
theorem Me.who_lt (H : Me L w0 W h t gw gc gk gs gq z m A T ss ws P f kept a sv wv) : gq < W.heap.size := H.mb.who.lt

/-- A new session. -/
theorem Me.fresh (H : Me L w0 W h t gw gc gk gs gq z m A T ss ws P f kept a sv wv) {k : Nat} (hk : k < 3) {id : Int} (hno : ∀ y, lastBy id (P y) = none) {g1 : Nat} (hg : W.heap.size = g1) {W3 : World} (hW : ((W.alloc (.cells #[.int .i64 id] 3)).alloc (.map #[] 0)).alloc (.cells #[.map (some (g1 + 1))] 49) = W3) :
    ∃ L' sv' wv', Me L' w0 (put3 W3 gq (k * 3) (.int .i64 id) (.slice (some ⟨g1, 0, none⟩) 1 1) (.slice (some ⟨g1 + 1 + 1, 0, none⟩) 1 1)) h t gw gc gk gs gq z m A T (updS ss k [id]) (updS ws k [id]) P f kept a sv' wv' := by
  obtain ⟨W1, hW1⟩ : ∃ X, W.alloc (.cells #[.int .i64 id] 3) = X := ⟨_, rfl⟩
  obtain ⟨W2, hW2⟩ : ∃ X, W1.alloc (.map #[] 0) = X := ⟨_, rfl⟩
  rw [hW1, hW2] at hW
  have s1 : W1.heap.size = g1 + 1 := by rw [← hW1, ← hg]; simp
  have s2 : W2.heap.size = g1 + 1 + 1 := by rw [← hW2]; simp [s1]
  have s3 : W3.heap.size = g1 + 1 + 1 + 1 := by rw [← hW]; simp [s2]
  have b1 : Below W.heap.size W W1 := by rw [← hW1]; exact Below.allocs _ _
  have b2 : Below W1.heap.size W1 W2 := by rw [← hW2]; exact Below.allocs _ _
  have b3 : Below W2.heap.size W2 W3 := by rw [← hW]; exact Below.allocs _ _
  have hq := H.who_lt
  obtain ⟨W4, hW4⟩ : ∃ X, put3 W3 gq (k * 3) (.int .i64 id) (.slice (some ⟨g1, 0, none⟩) 1 1) (.slice (some ⟨g1 + 1 + 1, 0, none⟩) 1 1) = X := ⟨_, rfl⟩
  have ht : Touch (fun b => b = gq) W3 W4 := by rw [← hW4]; exact touch_put3 _ _ _ _ _ _
  have hst : Stay (fun b => b ≠ gq) W3 W4 := ht.stay (fun b h1 h2 => h1 h2)
  have r1 : RowI W1 (.slice (some ⟨g1, 0, none⟩) 1 1) [id] := by
    have := lit_rowI W [id] 1 rfl (by unfold maxLen; omega)
    rw [hg] at this
    rw [← hW1]
    exact this
  have r2 : MapF W2 (g1 + 1) 0 (fun _ => none) := by
    have := MapF.new W1
    rw [s1, hW2] at this
    exact this
  have r3 : RowF 49 1 W3 (.slice (some ⟨g1 + 1 + 1, 0, none⟩) 1 1) 1 (mbV fun _ => g1 + 1) := by
    have := RowF.lit1 W2 49 (.map (some (g1 + 1)))
    rw [s2, hW] at this
    exact this
  rw [hW4]
  have hno' : ∀ b, L b ≠ .no → b < g1 := fun b hb => by rw [← hg]; exact H.lab hb
  refine ⟨fun b => if b = g1 then .sub k else if b = g1 + 1 then .mp k 0 else if b = g1 + 1 + 1 then .wro k else L b, updV sv k (.slice (some ⟨g1, 0, none⟩) 1 1), updV wv k (.slice (some ⟨g1 + 1 + 1, 0, none⟩) 1 1),
    H.ses hk (F := fun b => b = gq) ((Touch.of_below (below_tr b1 (below_tr b2 b3))).trans ht (fun b _ h => h)) (fun b _ e => by rw [e, H.mb.lq]; rfl) (fun b hb => ?_) (fun b hb => ?_) (fun _ _ _ _ _ _ => rfl) (Nat.le_refl _) ?_ ⟨?_, ?_⟩ ⟨⟨fun _ => g1 + 1, ?_, fun j hj => ?_⟩, ?_⟩⟩
  · have := hno' b hb
    rw [if_neg (by omega), if_neg (by omega), if_neg (by omega)]
  · have hsz := ht.size
    by_cases e1 : b = g1
    · exact .inr ⟨by omega, by omega⟩
    · rw [if_neg e1] at hb
      by_cases e2 : b = g1 + 1
      · exact .inr ⟨by omega, by omega⟩
      · rw [if_neg e2] at hb
        by_cases e3 : b = g1 + 1 + 1
        · exact .inr ⟨by omega, by omega⟩
        · rw [if_neg e3] at hb; exact .inl hb
  · have := lit_put3 (H.mb.who.below (below_tr b1 (below_tr b2 b3))) (k * 3) (.int .i64 id) (.slice (some ⟨g1, 0, none⟩) 1 1) (.slice (some ⟨g1 + 1 + 1, 0, none⟩) 1 1)
    rw [who_set0 hk ss sv wv (x := id) (l := [id]) rfl] at this
    rw [← hW4]
    exact this
  · exact RowF.stay (RowF.below (RowF.below r1 b2) b3) hst (fun b hb => by
      have : g1 = b := Option.some.inj hb
      omega)
  · intro b hb
    have : g1 = b := Option.some.inj hb
    rw [if_pos this.symm]
  · exact RowF.stay r3 hst (fun b hb => by
      have : g1 + 1 + 1 = b := Option.some.inj hb
      omega)
  · have hj0 : j = 0 := by simpa using hj
    subst hj0
    refine ⟨(if_neg (show g1 + 1 ≠ g1 by omega)).trans (if_pos rfl), (((r2.below b3).stay hst (by show g1 + 1 ≠ gq; omega)).mono (Nat.zero_le _)).congr fun x hx => ?_⟩
    unfold mapV
    show (lastBy id (P (x + 1))).map _ = none
    rw [hno]
    rfl
  · intro b hb
    have : g1 + 1 + 1 = b := Option.some.inj hb
    rw [if_neg (by omega), if_neg (by omega), if_pos this.symm]

/-- A session is over. -/
theorem Me.over (H : Me L w0 W h t gw gc gk gs gq z m A T ss ws P f kept a sv wv) {k : Nat} (hk : k < 3) {P' : Int → List Wt} (hP : ∀ j, j < 3 → j ≠ k → ∀ s ∈ ws j, ∀ y, lastBy s (P' y) = lastBy s (P y)) :
    ∃ L' sv' wv', Me L' w0 (put3 W gq (k * 3) (.int .i64 0) (.slice none 0 0) (.slice none 0 0)) h t gw gc gk gs gq z m A T (updS ss k []) (updS ws k []) P' f kept a sv' wv' := by
  obtain ⟨W4, hW4⟩ : ∃ X, put3 W gq (k * 3) (.int .i64 0) (.slice none 0 0) (.slice none 0 0) = X := ⟨_, rfl⟩
  have ht : Touch (fun b => b = gq) W W4 := by rw [← hW4]; exact touch_put3 _ _ _ _ _ _
  rw [hW4]
  refine ⟨L, _, _, H.ses hk (s := .slice none 0 0) (v := .slice none 0 0) (l := []) (l2 := []) ht (fun b _ e => by rw [e, H.mb.lq]; rfl) (fun b hb => rfl) (fun b hb => .inl hb) hP (Nat.le_refl _) ?_ ⟨RowF.nil _ _ _ _, fun b hb => by cases hb⟩ ⟨⟨fun _ => 0, RowF.nil _ _ _ _, fun j hj => absurd hj (Nat.not_lt_zero j)⟩, fun b hb => by cases hb⟩⟩
  have := lit_put3 H.mb.who (k * 3) (.int .i64 0) (.slice none 0 0) (.slice none 0 0)
  rw [who_set0 hk ss sv wv (x := 0) (l := []) rfl, hW4] at this
  exact this
end

end Go.Proofs.Ytbgnbaogclnpgaa

namespace Go.Proofs.Ytbgnbaogclnpgaa
open Go.RowKit
set_option linter.unusedVariables false

theorem info_mp : (Try.prog.info? 49).map (fun i => (i.zero, i.size, i.bytes)) = some (some (.map none), 1, 8) := by kernel_rfl

/-- One map more, at the end of a list of maps. -/
theorem row_map {W : World} {s : Value} {n : Nat} {mb : Nat → Nat} (h : RowF 49 1 W s n (mbV mb)) (g : Nat) (hn : n + 1 ≤ 1000000) :
    ∃ a' c' W6, (∀ ty, (Builtin.append_ #[36, 36] ty #[s, .slice (some ⟨W.heap.size, 0, none⟩) 1 1]).run Try.prog (W.alloc (.cells #[.map (some g)] 49)) = .ok (.slice a' (n + 1) c') W6) ∧
      RowF 49 1 W6 (.slice a' (n + 1) c') (n + 1) (mbV fun j => if j < n then mb j else g) ∧ Touch (fun k => s.ownBlock = some k) W W6 ∧ (∀ k, Value.ownBlock (.slice a' (n + 1) c') = some k → s.ownBlock = some k ∨ W.heap.size ≤ k) := by
  obtain ⟨i0, hi, hz, hsz, hby⟩ := info_parts info_mp
  have hal := Below.allocs W (.cells [Value.map (some g)].toArray 49)
  have hlit := Lit.new W 49 [.map (some g)]
  obtain ⟨s', W6, hrun, hrow, hg, hown⟩ := (h.below hal).append (P := Try.prog) 36 0 i0 _ 8 Try.underlying36 hi hz hsz hby rfl (by decide) (by decide) (b := W.heap.size) (k := 1) (c := 1) (q := fun _ => [.map (some g)])
    (fun j hj o v hv => by
      obtain rfl : j = 0 := by omega
      rw [Nat.zero_mul, Nat.zero_add]
      exact hlit.cell hv) (fun _ _ => rfl) (fun _ _ v hv => by simp at hv; subst hv; rfl) (by omega)
  obtain ⟨a', c', rfl, _, _⟩ := hrow.form
  refine ⟨a', c', W6, fun ty => hrun, hrow.congr fun j hj => ?_, (Touch.of_below hal).trans (Touch.grown hg (fun k hk => hk)) (fun _ _ h => h), fun k hk => ?_⟩
  · unfold mbV
    by_cases hjn : j < n
    · simp only [if_pos hjn]
    · simp only [if_neg hjn]
  · rcases hown with e | e
    · exact .inl (e ▸ hk)
    · right
      rw [e] at hk
      have : (W.alloc (.cells [Value.map (some g)].toArray 49)).heap.size = k := Option.some.inj hk
      simp at this
      omega

section
variable {L : Nat → Lb} {w0 W W' : World} {h t gw gc gk gs gq z m : Nat} {A : Ab} {T : Tb} {ss ws : Nat → List Int} {P : Int → List Wt} {f kept : Int → Int} {a : Int} {sv wv : Nat → Value}

/-- The session's list of transactions grows. -/
theorem Me.sub1 (H : Me L w0 W h t gw gc gk gs gq z m A T ss ws P f kept a sv wv) {k : Nat} (hk : k < 3) (hne : ss k ≠ []) {n : Nat} (hn : (ss k).length = n) (hn9 : n ≤ 900000) (id : Int) :
    ∃ a' c' W6, (∀ ty, (Builtin.append_ #[35, 35] ty #[sv k, .slice (some ⟨W.heap.size, 0, none⟩) 1 1]).run Try.prog (W.alloc (.cells #[.int .i64 id] 3)) = .ok (.slice a' (n + 1) c') W6) ∧
      Lit W6 gq 39 (whoC ss sv wv) ∧ ∃ L', Me L' w0 (W6.setCell ⟨gq, k * 3 + 1, none⟩ (.slice a' (n + 1) c')) h t gw gc gk gs gq z m A T (updS ss k (ss k ++ [id])) ws P f kept a (updV sv k (.slice a' (n + 1) c')) wv := by
  subst hn
  obtain ⟨a', c', W6, hrun, hrow, ht, hown⟩ := row_snoc 35 0 Try.underlying35 (H.mb.sub k hk).row id (by omega)
  have hsub := (H.mb.sub k hk).own
  have hnq : ∀ b, (sv k).ownBlock = some b → b ≠ gq := fun b hb e => by
    have h1 := hsub b hb
    rw [e, H.mb.lq] at h1
    cases h1
  have hwho := H.mb.who.stay (ht.stay (G := fun b => b = gq) (fun b e hb => hnq b hb e)) rfl
  refine ⟨a', c', W6, fun ty => hrun, hwho, ?_⟩
  obtain ⟨s', hs'⟩ : ∃ s', Value.slice a' ((ss k).length + 1) c' = s' := ⟨_, rfl⟩
  rw [hs'] at hrow hown ⊢
  have ht2 := Touch.setCell W6 (F := fun b => b = gq) rfl (k * 3 + 1) s'
  have hlt := hrow.lt
  have hlab : ∀ b, s'.ownBlock = some b → L b = .sub k ∨ W.heap.size ≤ b := fun b hb => (hown b hb).imp (hsub b) (fun q => q)
  have hnq2 : ∀ b, s'.ownBlock = some b → b ≠ gq := fun b hb e => by
    rcases hlab b hb with q | q
    · rw [e, H.mb.lq] at q; cases q
    · have := H.who_lt; omega
  have hkeep : ∀ b, L b ≠ .no → (if s'.ownBlock = some b then Lb.sub k else L b) = L b := fun b hb => by
    by_cases e : s'.ownBlock = some b
    · rw [if_pos e]
      rcases hlab b e with q | q
      · exact q.symm
      · have := H.lab hb; omega
    · rw [if_neg e]
  have hq1 : ∀ b, L b = .wro k ∨ (∃ j, L b = .mp k j) → b ≠ gq ∧ (sv k).ownBlock ≠ some b := fun b q => by
    constructor
    · intro e
      rw [e, H.mb.lq] at q
      rcases q with q | ⟨j, q⟩ <;> cases q
    · intro e
      rw [hsub b e] at q
      rcases q with q | ⟨j, q⟩ <;> cases q
  have hfull := H.ses hk (W' := W6.setCell ⟨gq, k * 3 + 1, none⟩ s') (F := fun b => b = gq ∨ (sv k).ownBlock = some b) ((ht.mono (fun b hb => .inr hb)).trans ht2 (fun b _ e => .inl e)) (fun b _ e => by
      rcases e with e | e
      · rw [e, H.mb.lq]; rfl
      · rw [hsub b e]; simp [Lb.mine]) (L' := fun b => if s'.ownBlock = some b then .sub k else L b) hkeep (fun b hb => by
      by_cases e : s'.ownBlock = some b
      · rcases hlab b e with q | q
        · exact .inl (by rw [q]; simp)
        · exact .inr ⟨q, Nat.lt_of_lt_of_le (hlt b e) ht2.size⟩
      · rw [if_neg e] at hb; exact .inl hb) (P' := P) (fun _ _ _ _ _ _ => rfl) (l := ss k ++ [id]) (l2 := ws k) (s := s') (v := wv k) (Nat.le_refl _) (by
      have := hwho.set (k * 3 + 1) s'
      rw [who_set1 hk ss sv wv (l := ss k ++ [id]) (by
        cases hc : ss k with
        | nil => exact absurd hc hne
        | cons x l => rfl) s'] at this
      exact this) ⟨RowF.stay hrow (ht2.stay (G := fun b => b ≠ gq) (fun b h1 h2 => h1 h2)) hnq2, fun b hb => if_pos hb⟩ ((H.mb.wro k hk).stay (G := fun b => b ≠ gq ∧ (sv k).ownBlock ≠ some b) (((ht.mono (F' := fun b => b = gq ∨ (sv k).ownBlock = some b) (fun b hb => .inr hb)).trans ht2 (fun b _ e => .inl e)).stay (fun b h1 h2 => h2.elim h1.1 h1.2)) hq1 (fun b q => hkeep b (by rcases q with q | ⟨j, q⟩ <;> rw [q] <;> simp)) (fun s hs y => rfl) (Nat.le_refl _))
  rw [updS_self ws k, updV_self wv k] at hfull
  exact ⟨_, hfull⟩

/-- The session's list of maps grows. -/
theorem Me.wro1 (H : Me L w0 W h t gw gc gk gs gq z m A T ss ws P f kept a sv wv) {k : Nat} (hk : k < 3) {n : Nat} (hn : (ws k).length = n) (hn9 : n ≤ 900000) {id : Int} (hno : ∀ y, lastBy id (P y) = none) {g : Nat} (hg : W.heap.size = g) :
    ∃ a' c' W6, (∀ ty, (Builtin.append_ #[36, 36] ty #[wv k, .slice (some ⟨g + 1, 0, none⟩) 1 1]).run Try.prog ((W.alloc (.map #[] 0)).alloc (.cells #[.map (some g)] 49)) = .ok (.slice a' (n + 1) c') W6) ∧
      Lit W6 gq 39 (whoC ss sv wv) ∧ ∃ L', Me L' w0 (W6.setCell ⟨gq, k * 3 + 2, none⟩ (.slice a' (n + 1) c')) h t gw gc gk gs gq z m A T ss (updS ws k (ws k ++ [id])) P f kept a sv (updV wv k (.slice a' (n + 1) c')) := by
  subst hn
  obtain ⟨W1, hW1⟩ : ∃ X, W.alloc (.map #[] 0) = X := ⟨_, rfl⟩
  have s1 : W1.heap.size = g + 1 := by rw [← hW1]; simp [hg]
  have b1 : Below W.heap.size W W1 := by rw [← hW1]; exact Below.allocs _ _
  have r2 : MapF W1 g 0 (fun _ => none) := by
    have := MapF.new W
    rw [hg, hW1] at this
    exact this
  obtain ⟨mb, m1, m2⟩ := (H.mb.wro k hk).row
  obtain ⟨a', c', W6, hrun, hrow, ht, hown⟩ := row_map (RowF.below m1 b1) g (by omega)
  rw [s1] at hrun hown
  rw [hW1]
  have hwl := (H.mb.wro k hk).own
  have hnq : ∀ b, (wv k).ownBlock = some b → b ≠ gq := fun b hb e => by
    have h1 := hwl b hb
    rw [e, H.mb.lq] at h1
    cases h1
  have htt : Touch (fun b => (wv k).ownBlock = some b) W W6 := (Touch.of_below b1).trans ht (fun b _ hb => hb)
  have hwho := H.mb.who.stay (htt.stay (G := fun b => b = gq) (fun b e hb => hnq b hb e)) rfl
  refine ⟨a', c', W6, hrun, hwho, ?_⟩
  obtain ⟨s', hs'⟩ : ∃ s', Value.slice a' ((ws k).length + 1) c' = s' := ⟨_, rfl⟩
  rw [hs'] at hrow hown ⊢
  have ht2 := Touch.setCell W6 (F := fun b => b = gq) rfl (k * 3 + 2) s'
  have hlt := hrow.lt
  have hq := H.who_lt
  have hlab : ∀ b, s'.ownBlock = some b → L b = .wro k ∨ g + 1 ≤ b := fun b hb => (hown b hb).imp (hwl b) (fun q => q)
  have hnq2 : ∀ b, s'.ownBlock = some b → b ≠ gq := fun b hb e => by
    rcases hlab b hb with q | q
    · rw [e, H.mb.lq] at q; cases q
    · omega
  have hng : s'.ownBlock ≠ some g := fun e => by
    rcases hlab g e with q | q
    · have := H.lab (b := g) (by rw [q]; simp); omega
    · omega
  have hkeep : ∀ b, L b ≠ .no → (if s'.ownBlock = some b then Lb.wro k else if b = g then .mp k (ws k).length else L b) = L b := fun b hb => by
    have h1 := H.lab hb
    by_cases e : s'.ownBlock = some b
    · rw [if_pos e]
      rcases hlab b e with q | q
      · exact q.symm
      · omega
    · rw [if_neg e, if_neg (by omega)]
  have hsz1 := ht.size
  have hsz2 := ht2.size
  have hq1 : ∀ b, L b = .sub k → b ≠ gq ∧ (wv k).ownBlock ≠ some b := fun b q => by
    constructor
    · intro e
      rw [e, H.mb.lq] at q
      cases q
    · intro e
      rw [hwl b e] at q
      cases q
  have hq2 : ∀ b j, L b = .mp k j → b ≠ gq ∧ (wv k).ownBlock ≠ some b := fun b j q => by
    constructor
    · intro e
      rw [e, H.mb.lq] at q
      cases q
    · intro e
      rw [hwl b e] at q
      cases q
  have hfull := H.ses hk (W' := W6.setCell ⟨gq, k * 3 + 2, none⟩ s') (F := fun b => b = gq ∨ (wv k).ownBlock = some b) ((htt.mono (fun b hb => .inr hb)).trans ht2 (fun b _ e => .inl e)) (fun b _ e => by
      rcases e with e | e
      · rw [e, H.mb.lq]; rfl
      · rw [hwl b e]; simp [Lb.mine]) (L' := fun b => if s'.ownBlock = some b then .wro k else if b = g then .mp k (ws k).length else L b) hkeep (fun b hb => by
      by_cases e : s'.ownBlock = some b
      · rcases hlab b e with q | q
        · exact .inl (by rw [q]; simp)
        · exact .inr ⟨by omega, Nat.lt_of_lt_of_le (hlt b e) ht2.size⟩
      · rw [if_neg e] at hb
        by_cases e2 : b = g
        · exact .inr ⟨by omega, by omega⟩
        · rw [if_neg e2] at hb; exact .inl hb) (P' := P) (fun _ _ _ _ _ _ => rfl) (l := ss k) (l2 := ws k ++ [id]) (s := sv k) (v := s') (Nat.le_refl _) (by
      have := hwho.set (k * 3 + 2) s'
      rw [who_set2 hk ss sv wv s'] at this
      exact this) ((H.mb.sub k hk).stay (G := fun b => b ≠ gq ∧ (wv k).ownBlock ≠ some b) (((htt.mono (F' := fun b => b = gq ∨ (wv k).ownBlock = some b) (fun b hb => .inr hb)).trans ht2 (fun b _ e => .inl e)).stay (fun b h1 h2 => h2.elim h1.1 h1.2)) hq1 (fun b q => (hkeep b (by rw [q]; simp)).trans q))
      ⟨⟨fun j => if j < (ws k).length then mb j else g, by
        rw [List.length_append, List.length_singleton]
        exact RowF.stay hrow (ht2.stay (G := fun b => b ≠ gq) (fun b h1 h2 => h1 h2)) hnq2, fun j hj => by
        rw [List.length_append, List.length_singleton] at hj
        by_cases e : j < (ws k).length
        · simp only [if_pos e]
          obtain ⟨q1, q2⟩ := m2 j e
          refine ⟨(hkeep _ (by rw [q1]; simp)).trans q1, ?_⟩
          rw [show (ws k ++ [id]).getD j 0 = (ws k).getD j 0 by rw [List.getD_eq_getElem?_getD, List.getD_eq_getElem?_getD, List.getElem?_append_left e]]
          exact q2.stay (G := fun b => b ≠ gq ∧ (wv k).ownBlock ≠ some b) (((htt.mono (F' := fun b => b = gq ∨ (wv k).ownBlock = some b) (fun b hb => .inr hb)).trans ht2 (fun b _ e => .inl e)).stay (fun b h1 h2 => h2.elim h1.1 h1.2)) (hq2 _ _ q1)
        · simp only [if_neg e]
          have ej : j = (ws k).length := by omega
          refine ⟨by rw [if_neg hng, ej]; simp, ?_⟩
          have h3 := ((r2.stay (ht.stay (G := fun b => (wv k).ownBlock ≠ some b) (fun b h1 h2 => h1 h2)) (fun e3 => by
            have := H.lab (b := g) (by rw [hwl g e3]; simp)
            omega)).stay (ht2.stay (G := fun b => b ≠ gq) (fun b h1 h2 => h1 h2)) (show g ≠ gq by omega)).mono (Nat.zero_le m)
          refine h3.congr fun x hx => ?_
          unfold mapV
          rw [ej, show (ws k ++ [id]).getD (ws k).length 0 = id by simp, hno]
          rfl⟩, fun b hb => if_pos hb⟩
  rw [updS_self ss k, updV_self sv k] at hfull
  exact ⟨_, hfull⟩
end

end Go.Proofs.Ytbgnbaogclnpgaa

namespace Go.Proofs.Ytbgnbaogclnpgaa

namespace RX
section
variable {P : Program} {md : Region.Mode} {ops : Array Oper} {Q : Exit → Act → World → Prop} {S : World → Prop}
/-- Two may come up. -/
theorem anyH_fork {i1 i2 : Nat} {fuel : Nat} {listed : Array Bool} {a : Act} {w : World} (hr : Region.ready md ops listed = [i1, i2])
    (h1 : wpOp P ops Q i1 (fun a' w' => S w' ∧ wpAnyH P md ops Q S fuel (listed.setIfInBounds i1 true) a' w') a w)
    (h2 : wpOp P ops Q i2 (fun a' w' => S w' ∧ wpAnyH P md ops Q S fuel (listed.setIfInBounds i2 true) a' w') a w) : wpAnyH P md ops Q S (fuel + 1) listed a w := by
  refine wpAnyH_all hr (by simp) fun j hj => ?_
  rcases (show j = i1 ∨ j = i2 by simpa using hj) with rfl | rfl
  · exact h1
  · exact h2
theorem opH_val {i : Nat} {o : Oper} {fuel : Nat} {listed : Array Bool} {a : Act} {w w' : World} {v : Value} (ho : ops[i]? = some o) (hw : Region.wanted o (yielded ops a.tmps) = true)
    (hrun : (execOp a.eval o).run P w = .ok (.value v) w') (hS : S w') (h : wpAnyH P md ops Q S fuel (listed.setIfInBounds i true) (a.put o.dst v) w') : wpOp P ops Q i (fun a' w' => S w' ∧ wpAnyH P md ops Q S fuel (listed.setIfInBounds i true) a' w') a w := by
  unfold wpOp
  simp only [ho, hw, if_true]
  left
  unfold Oper.wp
  rw [hrun]
  exact ⟨hS, h⟩
/-- One comes next: it writes, and leaves no value. -/
theorem anyH_eff {i : Nat} {o : Oper} {fuel : Nat} {listed : Array Bool} {a : Act} {w w' : World} (hr : Region.ready md ops listed = [i]) (ho : ops[i]? = some o) (hw : Region.wanted o (yielded ops a.tmps) = true)
    (hrun : (execOp a.eval o).run P w = .ok .skip w') (hS : S w') (h : wpAnyH P md ops Q S fuel (listed.setIfInBounds i true) (a.put o.dst undef) w') : wpAnyH P md ops Q S (fuel + 1) listed a w := by
  refine wpAnyH_all hr (by simp) fun j hj => ?_
  obtain rfl : j = i := by simpa using hj
  unfold wpOp
  simp only [ho, hw, if_true]
  left
  unfold Oper.wp
  rw [hrun]
  exact ⟨hS, h⟩
end
end RX

open Go.RowKit
set_option linter.unusedVariables false

section
variable {L : Nat → Lb} {w0 W W' : World} {h t gw gc gk gs gq z m : Nat} {A : Ab} {T : Tb} {ss ws : Nat → List Int} {P P' : Int → List Wt} {f kept : Int → Int} {a : Int} {sv wv : Nat → Value}

/-- A session goes back behind its deepest one. -/
theorem Me.back (H : Me L w0 W h t gw gc gk gs gq z m A T ss ss P f kept a sv wv) {k : Nat} (hk : k < 3) {l : List Int} {s : Int} (hl : ss k = l ++ [s]) (hne : l ≠ []) {j n : Nat} (hj : l.length = j) (hn : j + 1 = n) (hP : ∀ i, i < 3 → ∀ s' ∈ updS ss k l i, ∀ y, lastBy s' (P' y) = lastBy s' (P y))
    {b c d e : Nat} (hsv : sv k = .slice (some ⟨b, 0, none⟩) n c) (hwv : wv k = .slice (some ⟨d, 0, none⟩) n e) :
    Me L w0 ((W.setCell ⟨gq, k * 3 + 1, none⟩ (.slice (some ⟨b, 0, none⟩) j c)).setCell ⟨gq, k * 3 + 2, none⟩ (.slice (some ⟨d, 0, none⟩) j e)) h t gw gc gk gs gq z m A T (updS ss k l) (updS ss k l) P' f kept a (updV sv k (.slice (some ⟨b, 0, none⟩) j c)) (updV wv k (.slice (some ⟨d, 0, none⟩) j e)) := by
  have hln : (ss k).length = n := by rw [hl, List.length_append, List.length_singleton]; omega
  obtain ⟨W2, hW2⟩ : ∃ X, (W.setCell ⟨gq, k * 3 + 1, none⟩ (.slice (some ⟨b, 0, none⟩) j c)).setCell ⟨gq, k * 3 + 2, none⟩ (.slice (some ⟨d, 0, none⟩) j e) = X := ⟨_, rfl⟩
  have ht : Touch (fun x => x = gq) W W2 := by
    rw [← hW2]
    exact (Touch.setCell W (F := fun x => x = gq) rfl _ _).trans (Touch.setCell _ (F := fun x => x = gq) rfl _ _) (fun _ _ q => q)
  have hst : Stay (fun x => x ≠ gq) W W2 := ht.stay (fun x h1 h2 => h1 h2)
  have hnq : ∀ {x : Nat} {y : Lb}, L x = y → y ≠ .who → x ≠ gq := fun q1 q2 q3 => q2 (by rw [← q1, q3]; exact H.mb.lq)
  have hmem : ∀ i, i < j → (l ++ [s]).getD i 0 = l.getD i 0 ∧ l.getD i 0 ∈ l := fun i hi => by
    have h1 : i < l.length := by omega
    refine ⟨by rw [List.getD_eq_getElem?_getD, List.getD_eq_getElem?_getD, List.getElem?_append_left h1], ?_⟩
    rw [List.getD_eq_getElem?_getD, List.getElem?_eq_getElem h1]
    exact List.getElem_mem h1
  rw [hW2]
  refine H.ses hk (F := fun x => x = gq) ht (fun x _ q => by rw [q, H.mb.lq]; rfl) (fun x _ => rfl) (fun x q => .inl q) (fun i hi hne s' hs' y => hP i hi s' (by rw [updS_ne _ _ hne]; exact hs') y) (Nat.le_refl _) ?_ ⟨?_, fun x hx => ?_⟩ ⟨?_, fun x hx => ?_⟩
  · have := (H.mb.who.set (k * 3 + 1) (.slice (some ⟨b, 0, none⟩) j c)).set (k * 3 + 2) (.slice (some ⟨d, 0, none⟩) j e)
    rw [who_set1 hk ss sv wv (l := l) (by
      rw [hl]
      cases l with
      | nil => exact absurd rfl hne
      | cons x r => rfl) _, who_set2 hk, hW2] at this
    simp only [updS_at, updV_at] at this
    have e1 : updS (updS ss k l) k l = updS ss k l := by funext i; unfold updS; split <;> rfl
    have e2 : ∀ (g : Nat → Value) (x y : Value), updV (updV g k x) k y = updV g k y := fun g x y => by
      funext i
      unfold updV
      split <;> rfl
    rw [e1, e2, e2] at this
    exact this
  · have h1 := (H.mb.sub k hk).row
    rw [hsv] at h1
    unfold RowI at h1
    rw [hln] at h1
    have h2 := RowF.stay (h1.cut (k := j) (by omega)) hst (fun x hx => hnq ((H.mb.sub k hk).own x (by rw [hsv]; exact hx)) (by simp))
    unfold RowI
    rw [hj]
    exact h2.congr fun i hi => by
      show [Value.int .i64 (l.getD i 0)] = [Value.int .i64 ((ss k).getD i 0)]
      rw [hl, (hmem i hi).1]
  · exact (H.mb.sub k hk).own x (by rw [hsv]; exact hx)
  · obtain ⟨mb, h1, h2⟩ := (H.mb.wro k hk).row
    rw [hwv, hln] at h1
    rw [hj]
    refine ⟨mb, RowF.stay (h1.cut (k := j) (by omega)) hst (fun x hx => hnq ((H.mb.wro k hk).own x (by rw [hwv]; exact hx)) (by simp)), fun i hi => ?_⟩
    obtain ⟨q1, q2⟩ := h2 i (by omega)
    refine ⟨q1, (q2.stay hst (hnq q1 (by simp))).congr fun x hx => ?_⟩
    unfold mapV
    rw [hl, (hmem i hi).1, hP k hk _ (by rw [updS_at]; exact (hmem i hi).2)]
  · exact (H.mb.wro k hk).own x (by rw [hwv]; exact hx)

/-- A session's deepest map gets an entry. -/
theorem Me.put (H : Me L w0 W h t gw gc gk gs gq z m A T ss ss P f kept a sv wv) {k : Nat} (hk : k < 3) {l : List Int} {s : Int} (hl : ss k = l ++ [s]) {j : Nat} (hj : l.length = j) (hm : m ≤ 1000) {r : Nat} (hr : r < 4) {n : Int} (hP : ∀ i, i < 3 → ∀ s' ∈ ss i, ∀ y, lastBy s' (P' y) = if s' = s ∧ y = (r : Int) + 1 then some n else lastBy s' (P y)) (hs0 : ∀ i, i < 3 → i ≠ k → s ∉ ss i) (hsl : s ∉ l) :
    ∃ b c g, wv k = .slice (some ⟨b, 0, none⟩) (j + 1) c ∧ j + 1 ≤ c ∧ c ≤ maxLen ∧ b < W.heap.size ∧ W.cell? ⟨b, j, none⟩ = some (.map (some g)) ∧ ∀ V, Below W.heap.size W V → ∃ W', (Instr.mapUpdate 49 (.map (some g)) (.int .i64 (r : Int)) (.int .i64 n)).run Try.prog V = .ok () W' ∧ Me L w0 W' h t gw gc gk gs gq z (m + 1) A T ss ss P' f kept a sv wv := by
  have hln : (ss k).length = j + 1 := by rw [hl, List.length_append, List.length_singleton, hj]
  obtain ⟨mb, h1, h2⟩ := (H.mb.wro k hk).row
  rw [hln] at h1 h2
  obtain ⟨b, c, e, hc, hcm, hb, hcell, -⟩ := h1.at (Nat.lt_succ_self j)
  have hcell := hcell j (Nat.lt_succ_self j) 0 _ rfl
  rw [Nat.mul_one, Nat.add_zero] at hcell
  refine ⟨b, c, mb j, e, hc, hcm, hb, hcell, fun V hV => ?_⟩
  have HV := H.below hV
  obtain ⟨q1, q2⟩ := h2 j (Nat.lt_succ_self j)
  obtain ⟨W', hrun, hmap, hgr⟩ := (q2.below hV).put (t := 49) (e := 2) Try.underlying49 (by unfold maxLen; omega) (x := (r : Int)) (by unfold I64; omega) (.int .i64 n)
  have ht : Touch (fun x => x = mb j) V W' := Touch.grown hgr (fun x hx => (Option.some.inj hx).symm)
  refine ⟨W', hrun, ?_⟩
  have hst : Stay (fun x => x ≠ mb j) V W' := ht.stay (fun x h1 h2 => h1 h2)
  have hnq : ∀ {x : Nat} {y : Lb}, L x = y → y ≠ .mp k j → x ≠ mb j := fun p1 p2 p3 => p2 (by rw [← p1, p3]; exact q1)
  have hgd : (ss k).getD j 0 = s := by rw [hl, ← hj]; simp
  obtain ⟨mb', h1', h2'⟩ := (HV.mb.wro k hk).row
  have hmb : ∀ i, i < j + 1 → mb' i = mb i := fun i hi => by
    rw [hln] at h1'
    obtain ⟨b1, c1, e1, -, -, -, hc1, -⟩ := h1'.at hi
    obtain ⟨b2, c2, e2, -, -, -, hc2, -⟩ := (RowF.below h1 hV).at hi
    rw [e1] at e2
    cases e2
    have p1 := hc1 i hi 0 _ rfl
    have p2 := hc2 i hi 0 _ rfl
    rw [p1] at p2
    simp only [Option.some.injEq, Value.map.injEq] at p2
    exact p2
  have hfull := HV.ses hk (F := fun x => x = mb j) (L' := L) ht (fun x _ q => by rw [q, q1]; simp [Lb.mine]) (fun x _ => rfl) (fun x q => .inl q) (P' := P') (fun i hi hne s' hs' y => by
      rw [hP i hi s' hs' y, if_neg (fun q => hs0 i hi hne (by rw [← q.1]; exact hs'))]) (l := ss k) (l2 := ss k) (s := sv k) (v := wv k) (Nat.le_succ m) (by
      rw [updS_self, updV_self, updV_self]
      exact HV.mb.who.stay hst (hnq HV.mb.lq (by simp))) ((HV.mb.sub k hk).stay hst (fun x q => hnq q (by simp)) (fun x q => q)) ⟨⟨mb, by
      rw [hln]
      exact RowF.stay (RowF.below h1 hV) hst (fun x hx => hnq ((H.mb.wro k hk).own x hx) (by simp)), fun i hi => by
      rw [hln] at hi
      obtain ⟨p1, p2⟩ := h2 i hi
      refine ⟨p1, ?_⟩
      by_cases e2 : i = j
      · subst e2
        refine hmap.congr fun x hx => ?_
        unfold mapV updM
        rw [hgd, hP k hk s (by rw [hl]; simp)]
        by_cases e3 : x = (r : Int)
        · subst e3
          rw [if_pos ⟨rfl, rfl⟩, if_pos rfl]
          rfl
        · rw [if_neg (fun q => e3 (by have := q.2; omega)), if_neg e3]
      · have hil : i < l.length := by omega
        have hgi : (ss k).getD i 0 = l.getD i 0 := by rw [hl, List.getD_eq_getElem?_getD, List.getD_eq_getElem?_getD, List.getElem?_append_left hil]
        have hin : l.getD i 0 ∈ l := by
          rw [List.getD_eq_getElem?_getD, List.getElem?_eq_getElem hil]
          exact List.getElem_mem hil
        refine (((p2.below hV).stay hst (hnq p1 (fun e3 => e2 (Lb.mp.inj e3).2))).mono (Nat.le_succ m)).congr fun x hx => ?_
        unfold mapV
        rw [hgi, hP k hk _ (by rw [hl]; exact List.mem_append_left _ hin), if_neg (fun q => hsl (by rw [← q.1]; exact hin))]⟩, (HV.mb.wro k hk).own⟩
  rw [updS_self, updV_self, updV_self] at hfull
  exact hfull

/-- The snapshot is taken. -/
theorem Me.snap (H : Me L w0 W h t gw gc gk gs gq z m A T ss ws P f kept a sv wv) (a' : Int) : Me L w0 ((W.setCell ⟨gs, 0, none⟩ (.int .i64 a')).setCell ⟨gs, 1, none⟩ (.int .i64 0)) h t gw gc gk gs gq z m A T ss ws P f kept a' sv wv := by
  have ht : Touch (fun x => x = gs) W ((W.setCell ⟨gs, 0, none⟩ (.int .i64 a')).setCell ⟨gs, 1, none⟩ (.int .i64 0)) := (Touch.setCell W (F := fun x => x = gs) rfl _ _).trans (Touch.setCell _ (F := fun x => x = gs) rfl _ _) (fun _ _ q => q)
  have hst := ht.stay (G := fun x => x ≠ gs) (fun x h1 h2 => h1 h2)
  have hne : ∀ {b : Nat} {l : Lb}, L b = l → l ≠ .snp → b ≠ gs := fun e h2 e2 => h2 (by rw [← e, e2]; exact H.mb.ls)
  exact H.own ht (fun b e => .inr (.inr (by rw [e]; exact H.mb.ls))) (H.mb.com.stay hst (hne H.mb.lc (by simp))) (H.mb.kep.stay hst (hne H.mb.lk (by simp))) ((H.mb.snp.set 0 (.int .i64 a')).set 1 (.int .i64 0))
/-- What is committed is kept. -/
theorem Me.keep (H : Me L w0 W h t gw gc gk gs gq z m A T ss ws P f kept a sv wv) : Me L w0 ((((W.setCell ⟨gk, 0, none⟩ (.int .i64 (f 1))).setCell ⟨gk, 1, none⟩ (.int .i64 (f 2))).setCell ⟨gk, 2, none⟩ (.int .i64 (f 3))).setCell ⟨gk, 3, none⟩ (.int .i64 (f 4))) h t gw gc gk gs gq z m A T ss ws P f f a sv wv := by
  have ht : Touch (fun x => x = gk) W ((((W.setCell ⟨gk, 0, none⟩ (.int .i64 (f 1))).setCell ⟨gk, 1, none⟩ (.int .i64 (f 2))).setCell ⟨gk, 2, none⟩ (.int .i64 (f 3))).setCell ⟨gk, 3, none⟩ (.int .i64 (f 4))) :=
    (((Touch.setCell W (F := fun x => x = gk) rfl _ _).trans (Touch.setCell _ (F := fun x => x = gk) rfl _ _) (fun _ _ q => q)).trans (Touch.setCell _ (F := fun x => x = gk) rfl _ _) (fun _ _ q => q)).trans (Touch.setCell _ (F := fun x => x = gk) rfl _ _) (fun _ _ q => q)
  have hst := ht.stay (G := fun x => x ≠ gk) (fun x h1 h2 => h1 h2)
  have hne : ∀ {b : Nat} {l : Lb}, L b = l → l ≠ .kep → b ≠ gk := fun e h2 e2 => h2 (by rw [← e, e2]; exact H.mb.lk)
  exact H.own ht (fun b e => .inr (.inl (by rw [e]; exact H.mb.lk))) (H.mb.com.stay hst (hne H.mb.lc (by simp))) ((((H.mb.kep.set 0 (.int .i64 (f 1))).set 1 (.int .i64 (f 2))).set 2 (.int .i64 (f 3))).set 3 (.int .i64 (f 4))) (H.mb.snp.stay hst (hne H.mb.ls (by simp)))
end

end Go.Proofs.Ytbgnbaogclnpgaa
