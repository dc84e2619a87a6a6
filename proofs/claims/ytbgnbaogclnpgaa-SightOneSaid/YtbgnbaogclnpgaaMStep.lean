/-
  The steps of stage 12's laws: done to a heap and a table; as they lie (stage 12).
-/
import Derived.Test.YtbgnbaogclnpgaaMDuo
import Derived.Test.YtbgnbaogclnpgaaHLaw
namespace Go.Proofs.Ytbgnbaogclnpgaa
open Go.RowKit
set_option linter.unusedVariables false

structure Stq where
  kind : Int
  id : Int
  no : Int
  row : Int
  slot : Int

structure Stq.wf (s : Stq) : Prop where
  kind : 0 ≤ s.kind ∧ s.kind ≤ 255
  id : I64 s.id
  no : I64 s.no
  row : I64 s.row
  slot : I64 s.slot

/-- The version that a step puts, or another one: a number in a row of one. -/
def valI (n : Int) : Val := ⟨1, n, 0, ⟨#[]⟩⟩
def tupR (no id mn n : Int) : Tup := ⟨no, id, mn, 0, 0, 0, [valI n]⟩
def Ab.stA (A : Ab) (s : Stq) : Ab := if s.kind ≤ 2 then A else if s.kind = 3 then A.pt (tupR s.no s.row s.id s.id) else if s.kind = 4 then A.kl s.slot s.id 0 else A.fe s.slot
def Tb.stT (T : Tb) (s : Stq) : Tb := if s.kind = 0 then T.begT s.id else if s.kind = 1 then T.comT s.id else if s.kind = 2 then T.aboT s.id else T

theorem valI_wf {n : Int} (h : I64 n) : (valI n).wf := ⟨by show (0 : Int) ≤ 1; omega, by show (1 : Int) ≤ 255; omega, h, i64_0, by show 0 ≤ _; omega⟩
theorem Tb.new_small : Tb.new.Small 0 := ⟨Nat.le_refl _, Nat.le_refl _⟩
theorem tupR_wf {no id mn n : Int} (h1 : I64 no) (h2 : I64 id) (h3 : I64 mn) (h4 : I64 n) : (tupR no id mn n).wf :=
  ⟨h1, h2, h3, i64_0, i64_0, i64_0, fun x hx => by rw [List.mem_singleton.1 hx]; exact valI_wf h4, by show 1 ≤ 1000000; omega⟩

set_option maxRecDepth 100000 in
set_option maxHeartbeats 4000000 in
theorem step_is {X : Nat → Prop} {w0 w : World} {h z t : Nat} {A : Ab} {T : Tb} (H : Duo X w0 w h A z t T) (hn : T.n ≤ 1000) (hl : T.last ≤ 1000) (hz : z ≤ 80000) (s : Stq) (hs : s.wf) :
    Calls Try.prog 16 #[.agg #[.int .u8 s.kind, .int .i64 s.id, .int .i64 s.no, .int .i64 s.row, .int .i64 s.slot], .pointer (some ⟨h, 0, none⟩), .pointer (some ⟨t, 0, none⟩)] w fun e w' => e = .returned (.tuple #[]) ∧ Duo X w0 w' h (A.stA s) (z + 3) t (T.stT s) ∧ Stay X w w' := by
  obtain ⟨g, hg⟩ : ∃ g, w.heap.size = g := ⟨_, rfl⟩
  obtain ⟨W, hW⟩ : ∃ W, w.alloc (.cells #[.int .u8 s.kind, .int .i64 s.id, .int .i64 s.no, .int .i64 s.row, .int .i64 s.slot] 58) = W := ⟨_, rfl⟩
  have hli : Lit W g 58 [.int .u8 s.kind, .int .i64 s.id, .int .i64 s.no, .int .i64 s.row, .int .i64 s.slot] := by rw [← hW, ← hg]; exact Lit.new w _ _
  have hb : Below w.heap.size w W := by rw [← hW]; exact Below.allocs _ _
  have c0 := hli.cell (o := 0) rfl
  have c1 := hli.cell (o := 1) rfl
  have c2 := hli.cell (o := 2) rfl
  have c3 := hli.cell (o := 3) rfl
  have c4 := hli.cell (o := 4) rfl
  have cl := hli.lt
  have HD := Lib.hid (H.below hb)
  have HB := Lib.hid hb
  have HW := Lib.hid hW
  have HG := Lib.hid hg
  have HS := Lib.hid hs
  have hk0 := hs.kind.1
  clear hli hb hW hg H hs
  by_cases h0 : s.kind = 0
  · have e1 : A.stA s = A := by unfold Ab.stA; rw [if_pos (by omega)]
    have e2 : T.stT s = T.begT s.id := by unfold Tb.stT; rw [if_pos h0]
    rw [e1, e2]
    have HC := Lib.hid (duo_begin HD.out hn s.id HS.out.id rfl rfl rfl)
    rw [h0] at c0
    clear e1 e2 h0 hk0
    go_enter Try.func16, Try.ntmps16
    go_upto_region 1 with (fail)
    rw [show w.alloc _ = W from HW.out, HG.out]
    clear HW HG
    go_wp2_with fail
    refine HC.out.mono ?_
    rintro e w1 ⟨rfl, q1, q2⟩
    have HE := Lib.hid (And.intro (q1.more (Nat.le_add_right z 3)) ((Stay.of_below HB.out).trans q2))
    clear q1 q2 HC c0 c1 c2 c3 c4 cl
    go_wp2_with fail
    go_end0
    exact ⟨rfl, HE.out⟩
  · have n0 : (s.kind == 0) = false := by simpa using h0
    by_cases h1 : s.kind = 1
    · have e1 : A.stA s = A := by unfold Ab.stA; rw [if_pos (by omega)]
      have e2 : T.stT s = T.comT s.id := by unfold Tb.stT; rw [if_neg h0, if_pos h1]
      rw [e1, e2]
      have HC := Lib.hid (duo_commit HD.out hn hl s.id HS.out.id rfl rfl)
      rw [h1] at c0
      clear e1 e2 h0 h1 hk0 n0
      go_enter Try.func16, Try.ntmps16
      go_upto_region 1 with (fail)
      rw [show w.alloc _ = W from HW.out, HG.out]
      clear HW HG
      go_wp2_with fail
      refine HC.out.mono ?_
      rintro e w1 ⟨rfl, q1, q2⟩
      have HE := Lib.hid (And.intro (q1.more (Nat.le_add_right z 3)) ((Stay.of_below HB.out).trans q2))
      clear q1 q2 HC c0 c1 c2 c3 c4 cl
      go_wp2_with fail
      go_end0
      exact ⟨rfl, HE.out⟩
    · have n1 : (s.kind == 1) = false := by simpa using h1
      by_cases h2 : s.kind = 2
      · have e1 : A.stA s = A := by unfold Ab.stA; rw [if_pos (by omega)]
        have e2 : T.stT s = T.aboT s.id := by unfold Tb.stT; rw [if_neg h0, if_neg h1, if_pos h2]
        rw [e1, e2]
        have HC := Lib.hid (duo_abort HD.out hn s.id HS.out.id rfl rfl)
        rw [h2] at c0
        clear e1 e2 h0 h1 h2 hk0 n0 n1
        go_enter Try.func16, Try.ntmps16
        go_upto_region 1 with (fail)
        rw [show w.alloc _ = W from HW.out, HG.out]
        clear HW HG
        go_wp2_with fail
        refine HC.out.mono ?_
        rintro e w1 ⟨rfl, q1, q2⟩
        have HE := Lib.hid (And.intro (q1.more (Nat.le_add_right z 3)) ((Stay.of_below HB.out).trans q2))
        clear q1 q2 HC c0 c1 c2 c3 c4 cl
        go_wp2_with fail
        go_end0
        exact ⟨rfl, HE.out⟩
      · have n2 : (s.kind == 2) = false := by simpa using h2
        have e2 : T.stT s = T := by unfold Tb.stT; rw [if_neg h0, if_neg h1, if_neg h2]
        rw [e2]
        clear e2
        by_cases h3 : s.kind = 3
        · have e1 : A.stA s = A.pt (tupR s.no s.row s.id s.id) := by unfold Ab.stA; rw [if_neg (by omega), if_pos h3]
          rw [e1]
          obtain ⟨V, hV⟩ : ∃ V, W.alloc (.cells #[.int .u8 1, .int .i64 s.id, .int .i64 0, .string ⟨#[]⟩] 90) = V := ⟨_, rfl⟩
          obtain ⟨gv, hgv⟩ : ∃ g, W.heap.size = g := ⟨_, rfl⟩
          have hbV : Below W.heap.size W V := by rw [← hV]; exact Below.allocs _ _
          have hrow : RowV V (.slice (some ⟨gv, 0, none⟩) 1 1) [valI s.id] := by rw [← hV, ← hgv]; exact lit_rowV W [valI s.id] 1 rfl (by decide)
          have hcon := duo_put (HD.out.below hbV) (tupR s.no s.row s.id s.id) (.slice (some ⟨gv, 0, none⟩) 1 1) (tupR_wf HS.out.no HS.out.row HS.out.id HS.out.id) hrow (by omega) rfl rfl rfl
          unfold tupV tupR at hcon
          have HC := Lib.hid hcon
          have HBV := Lib.hid (below_tr HB.out hbV)
          have HV := Lib.hid hV
          have HGV := Lib.hid hgv
          rw [h3] at c0
          clear e1 h0 h1 h2 h3 hk0 n0 n1 n2 hcon hrow hbV hV hgv
          go_enter Try.func16, Try.ntmps16
          go_upto_region 1 with (fail)
          rw [show w.alloc _ = W from HW.out, HG.out]
          clear HW HG
          have hV := HV.out
          have hgv := HGV.out
          go_wp2_with fail
          refine HC.out.mono ?_
          rintro e w1 ⟨rfl, q1, q2⟩
          have HE := Lib.hid (And.intro q1 ((Stay.of_below HBV.out).trans q2))
          clear q1 q2 HC c0 c1 c2 c3 c4 cl hV hgv
          go_wp2_with fail
          go_end0
          exact ⟨rfl, HE.out⟩
        · have n3 : (s.kind == 3) = false := by simpa using h3
          by_cases h4 : s.kind = 4
          · have e1 : A.stA s = A.kl s.slot s.id 0 := by unfold Ab.stA; rw [if_neg (by omega), if_neg h3, if_pos h4]
            rw [e1]
            have HC := Lib.hid (duo_kill HD.out s.slot s.id 0 HS.out.id i64_0 (by omega) rfl rfl)
            rw [h4] at c0
            clear e1 h0 h1 h2 h3 h4 hk0 n0 n1 n2 n3
            go_enter Try.func16, Try.ntmps16
            go_upto_region 1 with (fail)
            rw [show w.alloc _ = W from HW.out, HG.out]
            clear HW HG
            go_wp2_with fail
            refine HC.out.mono ?_
            rintro e w1 ⟨rfl, q1, q2⟩
            have HE := Lib.hid (And.intro (q1.more (Nat.le_add_right z 3)) ((Stay.of_below HB.out).trans q2))
            clear q1 q2 HC c0 c1 c2 c3 c4 cl
            go_wp2_with fail
            go_end0
            exact ⟨rfl, HE.out⟩
          · have n4 : (s.kind == 4) = false := by simpa using h4
            have e1 : A.stA s = A.fe s.slot := by unfold Ab.stA; rw [if_neg (by omega), if_neg h3, if_neg h4]
            rw [e1]
            have HC := Lib.hid (duo_free HD.out s.slot (by omega) rfl rfl)
            clear e1 h0 h1 h2 h3 h4 hk0
            go_enter Try.func16, Try.ntmps16
            go_upto_region 1 with (fail)
            rw [show w.alloc _ = W from HW.out, HG.out]
            clear HW HG
            go_wp2_with fail
            refine HC.out.mono ?_
            rintro e w1 ⟨rfl, q1, q2⟩
            have HE := Lib.hid (And.intro (q1.more (show z + 2 ≤ z + 3 by omega)) ((Stay.of_below HB.out).trans q2))
            clear q1 q2 HC c0 c1 c2 c3 c4 cl
            go_wp2_with fail
            go_end0
            exact ⟨rfl, HE.out⟩

/-! ### Steps, as they lie -/

/-- A slice of the steps l. -/
structure SlQ (W : World) (a : Option Addr) (c : Nat) (l : List Stq) : Prop where
  lc : l.length ≤ c
  cm : c ≤ maxLen
  at' : l ≠ [] → ∃ b o, a = some ⟨b, o, none⟩ ∧ b < W.heap.size ∧ ∀ (i : Nat) s, l[i]? = some s → W.cell? ⟨b, o + i * 5, none⟩ = some (.int .u8 s.kind) ∧ W.cell? ⟨b, o + i * 5 + 1, none⟩ = some (.int .i64 s.id) ∧ W.cell? ⟨b, o + i * 5 + 2, none⟩ = some (.int .i64 s.no) ∧ W.cell? ⟨b, o + i * 5 + 3, none⟩ = some (.int .i64 s.row) ∧ W.cell? ⟨b, o + i * 5 + 4, none⟩ = some (.int .i64 s.slot)
  wf : ∀ s ∈ l, s.wf

theorem SlQ.below {W W' : World} {a : Option Addr} {c : Nat} {l : List Stq} (h : SlQ W a c l) (hb : Below W.heap.size W W') : SlQ W' a c l :=
  ⟨h.lc, h.cm, fun hl => by
    obtain ⟨b, o, e, hlt, hx⟩ := h.at' hl
    refine ⟨b, o, e, Nat.lt_of_lt_of_le hlt hb.size, fun i s hs => ?_⟩
    obtain ⟨x0, x1, x2, x3, x4⟩ := hx i s hs
    exact ⟨by rw [hb.cell hlt]; exact x0, by rw [hb.cell hlt]; exact x1, by rw [hb.cell hlt]; exact x2, by rw [hb.cell hlt]; exact x3, by rw [hb.cell hlt]; exact x4⟩, h.wf⟩

/-- A step of a list lies where the list lies, later, too. -/
theorem stq_at {w0 w : World} {a : Option Addr} {c n i : Nat} {l : List Stq} (hs : SlQ w0 a c l) (hb : Below w0.heap.size w0 w) (hn : l.length = n) (hi : i < n) :
    ∃ s b o, l[i]? = some s ∧ s.wf ∧ a = some ⟨b, o, none⟩ ∧ b < w.heap.size ∧ w.cell? ⟨b, o + i * 5, none⟩ = some (.int .u8 s.kind) ∧ w.cell? ⟨b, o + i * 5 + 1, none⟩ = some (.int .i64 s.id) ∧ w.cell? ⟨b, o + i * 5 + 2, none⟩ = some (.int .i64 s.no) ∧ w.cell? ⟨b, o + i * 5 + 3, none⟩ = some (.int .i64 s.row) ∧ w.cell? ⟨b, o + i * 5 + 4, none⟩ = some (.int .i64 s.slot) := by
  subst hn
  have h1 : l[i]? = some l[i] := List.getElem?_eq_getElem hi
  obtain ⟨b, o, ea, hl, hx⟩ := (hs.below hb).at' (by rintro rfl; simp at hi)
  obtain ⟨x0, x1, x2, x3, x4⟩ := hx i _ h1
  exact ⟨l[i], b, o, h1, hs.wf _ (List.getElem_mem hi), ea, hl, x0, x1, x2, x3, x4⟩

/-- All steps done, one behind the other. -/
def Ab.sts (A : Ab) : List Stq → Ab
  | [] => A
  | s :: l => (A.stA s).sts l
def Tb.sts (T : Tb) : List Stq → Tb
  | [] => T
  | s :: l => (T.stT s).sts l
theorem Ab.sts_snoc (A : Ab) (l : List Stq) (s : Stq) : A.sts (l ++ [s]) = (A.sts l).stA s := by
  induction l generalizing A with
  | nil => rfl
  | cons x l ih => exact ih _
theorem Tb.sts_snoc (T : Tb) (l : List Stq) (s : Stq) : T.sts (l ++ [s]) = (T.sts l).stT s := by
  induction l generalizing T with
  | nil => rfl
  | cons x l ih => exact ih _
theorem Tb.Small.stT {T : Tb} {B : Nat} (h : T.Small B) (s : Stq) : (T.stT s).Small (B + 1) := by
  unfold Tb.stT
  by_cases h0 : s.kind = 0
  · rw [if_pos h0]
    have := h.stp 0 s.id
    rwa [(begT_eq T s.id).1] at this
  · rw [if_neg h0]
    by_cases h1 : s.kind = 1
    · rw [if_pos h1]
      have := h.stp 1 s.id
      rwa [(comT_eq T 1 s.id (by decide) rfl).1] at this
    · rw [if_neg h1]
      by_cases h2 : s.kind = 2
      · rw [if_pos h2]
        have := h.stp 2 s.id
        rwa [(aboT_eq T 2 s.id (by decide) (by decide)).1] at this
      · rw [if_neg h2]
        exact ⟨by have := h.1; omega, by have := h.2; omega⟩
theorem Tb.Small.sts {T : Tb} {B : Nat} (h : T.Small B) (l : List Stq) : (T.sts l).Small (B + l.length) := by
  induction l generalizing T B with
  | nil => exact h
  | cons x l ih =>
    have := ih (h.stT x)
    rwa [show B + 1 + l.length = B + (x :: l).length by simp; omega] at this
theorem sts_take {A : Ab} {T : Tb} {l : List Stq} {i : Nat} {s : Stq} (h : l[i]? = some s) : A.sts (l.take (i + 1)) = (A.sts (l.take i)).stA s ∧ T.sts (l.take (i + 1)) = (T.sts (l.take i)).stT s := by
  rw [List.take_add_one, h]
  exact ⟨Ab.sts_snoc _ _ _, Tb.sts_snoc _ _ _⟩
theorem sts_small {l : List Stq} {n i C : Nat} (hn : l.length = n) (h : n ≤ C) : (Tb.new.sts (l.take i)).Small C := by
  have := Tb.Small.sts Tb.new_small (l.take i)
  have hl : (l.take i).length ≤ n := by rw [List.length_take]; omega
  exact ⟨by have := this.1; omega, by have := this.2; omega⟩

end Go.Proofs.Ytbgnbaogclnpgaa
