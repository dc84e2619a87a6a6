/-
  Entries in a row; slices.BinarySearchFunc over them.
-/
import Derived.Test.YtfikaccgpjiedaaJJ12
import Derived.Test.YtfikaccgpjiedaaJJ13
import Derived.StillTailTactics
namespace Go.Proofs.Ytfikaccgpjiedaa
open Go.RowKit Go.Lib

/-- An entry in a node: where its key lies. -/
structure CE where
  a : Option Addr
  c : Nat
  e : Ent

def CE.cs (x : CE) : List Value := [.slice x.a x.e.key.length x.c, .int .i64 x.e.id]
def CE.v (x : CE) : Value := .agg #[.slice x.a x.e.key.length x.c, .int .i64 x.e.id]
def flatC (l : List CE) : List Value := l.flatMap CE.cs
def entsC (l : List CE) : List Ent := l.map CE.e

theorem flatC_app (l m : List CE) : flatC (l ++ m) = flatC l ++ flatC m := by simp [flatC]
theorem flatC_cons (x : CE) (l : List CE) : flatC (x :: l) = x.cs ++ flatC l := by simp [flatC]
theorem flatC_len : ∀ l : List CE, (flatC l).length = l.length * 2
  | [] => rfl
  | x :: l => by rw [flatC_cons, List.length_append, flatC_len l, List.length_cons]; simp [CE.cs]; omega
theorem cs_one (x : CE) : ∀ v ∈ x.cs, v.oneCell' = true := by
  intro v hv
  simp [CE.cs] at hv
  rcases hv with rfl | rfl <;> rfl
theorem flatC_one (l : List CE) : ∀ u ∈ flatC l, u.oneCell' = true := by
  intro u hu
  simp only [flatC, List.mem_flatMap] at hu
  obtain ⟨x, _, h⟩ := hu
  exact cs_one x u h
theorem flatC_take : ∀ (l : List CE) (i : Nat), (flatC l).take (i * 2) = flatC (l.take i)
  | [], i => by simp [flatC]
  | x :: l, 0 => by simp [flatC]
  | x :: l, i + 1 => by
      rw [flatC_cons, List.take_succ_cons, flatC_cons, ← flatC_take l i, show (i + 1) * 2 = x.cs.length + i * 2 by simp [CE.cs]; omega, List.take_length_add_append]
theorem flatC_drop : ∀ (l : List CE) (i : Nat), (flatC l).drop (i * 2) = flatC (l.drop i)
  | [], i => by simp [flatC]
  | x :: l, 0 => by simp
  | x :: l, i + 1 => by
      rw [flatC_cons, List.drop_succ_cons, ← flatC_drop l i, show (i + 1) * 2 = x.cs.length + i * 2 by simp [CE.cs]; omega, List.drop_length_add_append]
theorem flatC_at : ∀ (l : List CE) (i : Nat) (x : CE), l[i]? = some x → (flatC l)[i * 2]? = some (.slice x.a x.e.key.length x.c) ∧ (flatC l)[i * 2 + 1]? = some (.int .i64 x.e.id)
  | [], i, x, h => by simp at h
  | y :: l, 0, x, h => by
      simp at h
      subst h
      rw [flatC_cons]
      simp [CE.cs]
  | y :: l, i + 1, x, h => by
      have := flatC_at l i x (by simpa using h)
      rw [flatC_cons, List.getElem?_append_right (by simp [CE.cs]; omega), List.getElem?_append_right (by simp [CE.cs]; omega)]
      rw [show (i + 1) * 2 - y.cs.length = i * 2 by simp [CE.cs]; omega, show (i + 1) * 2 + 1 - y.cs.length = i * 2 + 1 by simp [CE.cs]; omega]
      exact this

/-- A row of entries: where entry i lies. -/
theorem ent_at {W : World} {a : Option Addr} {n c : Nat} {es : List CE} (h : RowS 2 W a n c (flatC es)) {i : Nat} {x : CE} (hx : es[i]? = some x) :
    ∃ b o, a = some ⟨b, o, none⟩ ∧ W.cell? ⟨b, o + i * 2, none⟩ = some (.slice x.a x.e.key.length x.c) ∧ W.cell? ⟨b, o + i * 2 + 1, none⟩ = some (.int .i64 x.e.id) ∧ W.frozen? ⟨b, o + i * 2, none⟩ = false ∧ W.frozen? ⟨b, o + i * 2 + 1, none⟩ = false ∧ b < W.heap.size := by
  have hi := (List.getElem?_eq_some_iff.1 hx).1
  have hl := h.len
  rw [flatC_len] at hl
  have hnc := h.nc
  obtain ⟨q0, q1⟩ := flatC_at es i x hx
  rcases h.at' with ⟨_, h0⟩ | ⟨b, o, rfl, hb, hc, hr⟩
  · omega
  · exact ⟨b, o, rfl, hc _ _ q0, by rw [Nat.add_assoc]; exact hc _ _ q1, (hr (i * 2) (by omega)).2, by rw [Nat.add_assoc]; exact (hr (i * 2 + 1) (by omega)).2, hb⟩

/-- Where what is less ends. -/
theorem here_is (p : Ent → Bool) : ∀ (l : List Ent), (∀ (i j : Nat) a b, i < j → l[i]? = some a → l[j]? = some b → p b = true → p a = true) →
    ∃ k, k ≤ l.length ∧ (∀ (j : Nat) e, j < k → l[j]? = some e → p e = true) ∧ ∀ (j : Nat) e, k ≤ j → l[j]? = some e → p e = false
  | [], _ => ⟨0, Nat.le_refl _, fun j e hj => absurd hj (Nat.not_lt_zero _), fun j e _ h => by simp at h⟩
  | x :: l, h => by
      obtain ⟨k, h1, h2, h3⟩ := here_is p l (fun i j a b hij ha hb => h (i + 1) (j + 1) a b (by omega) (by simpa using ha) (by simpa using hb))
      cases hx : p x with
      | true =>
        refine ⟨k + 1, by simpa using h1, fun j e hj he => ?_, fun j e hj he => ?_⟩
        · cases j with
          | zero => simp at he; subst he; exact hx
          | succ j => exact h2 j e (by omega) (by simpa using he)
        · cases j with
          | zero => omega
          | succ j => exact h3 j e (by omega) (by simpa using he)
      | false =>
        refine ⟨0, Nat.zero_le _, fun j e hj => absurd hj (Nat.not_lt_zero _), fun j e _ he => ?_⟩
        cases j with
        | zero => simp at he; subst he; exact hx
        | succ j =>
          cases he' : p e with
          | false => rfl
          | true => have := h 0 (j + 1) x e (by omega) rfl he he'; rw [hx] at this; cases this

theorem here_of {l : List Ent} (hs : Srt ltE l) (x : Ent) : ∃ k, Here ltE l x k :=
  here_is (fun e => ltE e x) l fun i j a b hij ha hb hp => by
    obtain ⟨h1, e1⟩ := List.getElem?_eq_some_iff.1 ha
    obtain ⟨h2, e2⟩ := List.getElem?_eq_some_iff.1 hb
    have := List.pairwise_iff_getElem.1 hs i j h1 h2 hij
    rw [e1, e2] at this
    exact sloE.trans this hp

/-- Where the keys that are ahead of one end. -/
def HereK (l : List Ent) (key : List Val) (k : Nat) : Prop := k ≤ l.length ∧ (∀ (j : Nat) e, j < k → l[j]? = some e → ltK e.key key = true) ∧ ∀ (j : Nat) e, k ≤ j → l[j]? = some e → ltK e.key key = false

theorem hereK_of {l : List Ent} (hs : Srt ltE l) (key : List Val) : ∃ k, HereK l key k :=
  here_is (fun e => ltK e.key key) l fun i j a b hij ha hb hp => by
    obtain ⟨h1, e1⟩ := List.getElem?_eq_some_iff.1 ha
    obtain ⟨h2, e2⟩ := List.getElem?_eq_some_iff.1 hb
    have := List.pairwise_iff_getElem.1 hs i j h1 h2 hij
    rw [e1, e2] at this
    exact ltK_down this hp

theorem ents_get {l : List CE} {i : Nat} {x : CE} (h : l[i]? = some x) : (entsC l)[i]? = some x.e := by simp [entsC, h]

set_option maxRecDepth 100000 in
set_option maxHeartbeats 2000000 in
theorem bse_is (a ka : Option Addr) (c n kc kn : Nat) (es : List CE) (key : List Val) (id : Int) (i0 : Nat) (z : Bool) (hn : es.length = n) (hn2 : n ≤ 1000) (hkn : key.length = kn) (w : World) (hr : RowS 2 w a n c (flatC es)) (hks : ∀ x ∈ es, SlL w x.a x.c x.e.key) (hk : SlL w ka kc key)
    (hh : Here ltE (entsC es) ⟨key, id⟩ i0) (hz : decide ((entsC es)[i0]? = some ⟨key, id⟩) = z) :
    Calls Try.prog 38 #[.slice a n c, .agg #[.slice ka kn kc, .int .i64 id], .func (.func 39) #[] #[]] w fun e w' => e = .returned (.tuple #[.int .i64 (i0 : Int), .bool z]) ∧ Below w.heap.size w w' := by
  have mixed : Try.prog.follows Departure.mixedOrders = true := by kernel_rfl
  have hal := Below.allocs w (.cells #[.slice ka kn kc, .int .i64 id] 37)
  have hi0 : i0 ≤ n := by have := hh.1; simpa [entsC, hn] using this
  have HR := Lib.hid hr
  have HKS := Lib.hid hks
  have HK := Lib.hid hk
  have HH := Lib.hid hh
  have HZ := Lib.hid hz
  have HN := Lib.hid hn
  have HKN := Lib.hid hkn
  have HAL := Lib.hid hal
  have HL := Lib.hid (Lit.entry w ka kn kc id)
  clear hr hks hk hh hz hn hkn hal
  go_enter Try.func38, Try.ntmps38
  go_wp2_with fail
  obtain ⟨w0, hw0⟩ : ∃ w0, w.alloc (.cells #[.slice ka kn kc, .int .i64 id] 37) = w0 := ⟨_, rfl⟩
  rw [hw0] at HAL HL ⊢
  clear hw0
  obtain ⟨g, hg⟩ : ∃ g, w.heap.size = g := ⟨_, rfl⟩
  have HG := Lib.hid hg
  rw [hg] at HL ⊢
  clear hg
  go_loopg [9, 10] n (fun gg s9 s10 wr => ∃ lo hi : Nat, s9 = .int .i64 lo ∧ s10 = .int .i64 hi ∧ lo ≤ i0 ∧ i0 ≤ hi ∧ hi ≤ n ∧ hi - lo ≤ gg ∧ Hid (Below w0.heap.size w0 wr))
  case atStart => exact ⟨0, n, rfl, rfl, Nat.zero_le _, hi0, Nat.le_refl _, by omega, Lib.hid (Below.refl _ _)⟩
  case round =>
    obtain ⟨lo, hi, rfl, rfl, hl, hh, hin, hgg, BW⟩ := hrel
    have hb0 := below_tr HAL.out BW.out
    obtain ⟨k0, k1, _, _⟩ := (HL.out.below BW.out).two
    by_cases hlt : lo < hi
    · have hltz : (lo : Int) < (hi : Int) := by omega
      obtain ⟨m, hm⟩ : ∃ m, (lo + hi) / 2 = m := ⟨_, rfl⟩
      have hmz : ((lo : Int) + (hi : Int)) / 2 = (m : Int) := by omega
      have hmn : m < n := by omega
      have hmnz : (m : Int) < (n : Int) := by omega
      obtain ⟨x, hx⟩ : ∃ x, es[m]? = some x := ⟨es[m]'(by rw [HN.out]; exact hmn), by simp⟩
      obtain ⟨b, o, rfl, d0, d1, _⟩ := ent_at (HR.out.below hb0) hx
      obtain ⟨r, hr⟩ : ∃ r, cmpE x.e ⟨key, id⟩ = r := ⟨_, rfl⟩
      have hcon := fun (W : World) (hb : Below wr.heap.size wr W) => cent_is x.a ka x.c kc x.e.key.length kn x.e.key key x.e.id id r rfl HKN.out hr W ((HKS.out x (List.mem_of_getElem? hx)).below (below_tr hb0 hb)) (HK.out.below (below_tr hb0 hb))
      have HCON := Lib.hid hcon
      have HX := Lib.hid (And.intro hx hr)
      clear hcon hx hr hb0
      have hxe : (entsC es)[m]? = some x.e := ents_get HX.out.1
      have HXE := Lib.hid hxe
      clear hxe
      by_cases hq : r < 0
      · go_wp2_with fail
        go_still_tail 6, (by kernel_rfl)
        change wpList _ _ _ _ _ wr.drew
        have hc2 := HCON.out wr.drew (below_drw wr)
        have HBD := Lib.hid (below_tr BW.out (below_drw wr))
        clear k0 k1 d0 d1
        generalize wr.drew = W at hc2 HBD ⊢
        go_wp2_with fail
        refine hc2.mono ?_
        rintro e w2 ⟨rfl, hb2⟩
        have HB2 := Lib.hid (below_tr HBD.out hb2)
        clear hc2 hb2 HBD
        go_wp2_with fail
        go_roundg (hi - (m + 1))
        case measure => omega
        case rel =>
          refine ⟨m + 1, hi, by go_num, rfl, ?_, hh, hin, Nat.le_refl _, HB2⟩
          apply Classical.byContradiction
          intro hc
          have := HH.out.2.2 m x.e (by omega) HXE.out
          rw [Bool.eq_false_iff] at this
          exact this (ltE_neg.mpr (by rw [HX.out.2]; exact hq))
      · go_wp2_with fail
        go_still_tail 6, (by kernel_rfl)
        change wpList _ _ _ _ _ wr.drew
        have hc2 := HCON.out wr.drew (below_drw wr)
        have HBD := Lib.hid (below_tr BW.out (below_drw wr))
        clear k0 k1 d0 d1
        generalize wr.drew = W at hc2 HBD ⊢
        go_wp2_with fail
        refine hc2.mono ?_
        rintro e w2 ⟨rfl, hb2⟩
        have HB2 := Lib.hid (below_tr HBD.out hb2)
        clear hc2 hb2 HBD
        go_wp2_with fail
        go_roundg (m - lo)
        case measure => omega
        case rel =>
          refine ⟨lo, m, rfl, rfl, hl, ?_, by omega, Nat.le_refl _, HB2⟩
          apply Classical.byContradiction
          intro hc
          have := HH.out.2.1 m x.e (by omega) HXE.out
          rw [ltE_neg, HX.out.2] at this
          exact absurd this (by omega)
    · obtain rfl : i0 = lo := by omega
      obtain rfl : hi = i0 := by omega
      by_cases hend : hi < n
      · have hendz : decide ((hi : Int) < (n : Int)) = true := by simp; omega
        have hendy : (hi : Int) < (n : Int) := by omega
        obtain ⟨x, hx⟩ : ∃ x, es[hi]? = some x := ⟨es[hi]'(by rw [HN.out]; exact hend), by simp⟩
        obtain ⟨b, o, rfl, d0, d1, _⟩ := ent_at (HR.out.below hb0) hx
        obtain ⟨r, hr⟩ : ∃ r, cmpE x.e ⟨key, id⟩ = r := ⟨_, rfl⟩
        have hzr : z = (r == 0) := by
          rw [← HZ.out, ents_get hx, Bool.eq_iff_iff, decide_eq_true_iff, Option.some.injEq, beq_iff_eq, ← hr]
          exact (cmpE_zero _ _).symm
        have hcon := fun (W : World) (hb : Below wr.heap.size wr W) => cent_is x.a ka x.c kc x.e.key.length kn x.e.key key x.e.id id r rfl HKN.out hr W ((HKS.out x (List.mem_of_getElem? hx)).below (below_tr hb0 hb)) (HK.out.below (below_tr hb0 hb))
        have HCON := Lib.hid hcon
        have HD : Hid (∀ W, Below wr.heap.size wr W → W.cell? ⟨b, o + hi * 2, none⟩ = some (.slice x.a x.e.key.length x.c) ∧ W.cell? ⟨b, o + hi * 2 + 1, none⟩ = some (.int .i64 x.e.id)) := Lib.hid (fun W hb => by
          have hlt := World.block_lt_of_cell? _ _ d0
          exact ⟨by rw [hb.cell (p := ⟨b, o + hi * 2, none⟩) hlt]; exact d0, by rw [hb.cell (p := ⟨b, o + hi * 2 + 1, none⟩) hlt]; exact d1⟩)
        clear hcon hx hr hb0 k0 k1 d0 d1
        go_wp2_with fail
        have hdr := below_drw wr
        try simp only [List.append_eq, List.cons_append, List.nil_append]
        refine RX.wp_region_plan (fun w w' => Below w.heap.size w w') [.it (.int .i64 (hi : Int)), .it (.int .i64 (hi : Int)), .it (.int .i64 (n : Int)), .it (.bool true), .it (.bool true), .it (.func (.func 39) #[] #[]), .it (.slice (some ⟨b, o, none⟩) n c), .it (.int .i64 (hi : Int)), .it (.pointer (some ⟨b, o + hi * 2, none⟩)), .it (.agg #[.slice x.a x.e.key.length x.c, .int .i64 x.e.id]), .it (.agg #[.slice ka kn kc, .int .i64 id]), .it (.int .i64 r), .it (.bool (r == 0)), .it (.bool (r == 0)), .it (.int .i64 (hi : Int)), .it (.bool (r == 0))] (by kernel_rfl) (by kernel_rfl) (fun _ => Below.refl _ _) (fun _ _ _ => below_tr) ?_
        refine RX.seqP_value (fun _ => Below.refl _ _) _ (by first | rfl | simp) (fun w' hw' hctx => by (go_simp); (try first | with_reducible rfl | simp)) ?_
        simp only [Act.put, List.setIfInBounds_toArray, List.set_cons_zero, List.set_cons_succ]
        refine RX.seqP_value (fun _ => Below.refl _ _) _ (by first | rfl | simp) (fun w' hw' hctx => by (go_simp); (try first | with_reducible rfl | simp)) ?_
        simp only [Act.put, List.setIfInBounds_toArray, List.set_cons_zero, List.set_cons_succ]
        refine RX.seqP_value (fun _ => Below.refl _ _) _ (by first | rfl | simp) (fun w' hw' hctx => by (go_simp); (try first | with_reducible rfl | simp)) ?_
        simp only [Act.put, List.setIfInBounds_toArray, List.set_cons_zero, List.set_cons_succ]
        refine RX.seqP_value (fun _ => Below.refl _ _) _ (by first | rfl | simp) (fun w' hw' hctx => by (go_simp); (try first | with_reducible rfl | simp)) ?_
        simp only [Act.put, List.setIfInBounds_toArray, List.set_cons_zero, List.set_cons_succ]
        refine RX.seqP_value (fun _ => Below.refl _ _) _ (by first | rfl | simp) (fun w' hw' hctx => by (go_simp); (try first | with_reducible rfl | simp)) ?_
        simp only [Act.put, List.setIfInBounds_toArray, List.set_cons_zero, List.set_cons_succ]
        refine RX.seqP_value (fun _ => Below.refl _ _) _ (by first | rfl | simp) (fun w' hw' hctx => by (go_simp); (try first | with_reducible rfl | simp)) ?_
        simp only [Act.put, List.setIfInBounds_toArray, List.set_cons_zero, List.set_cons_succ]
        refine RX.seqP_value (fun _ => Below.refl _ _) _ (by first | rfl | simp) (fun w' hw' hctx => by (go_simp); (try first | with_reducible rfl | simp)) ?_
        simp only [Act.put, List.setIfInBounds_toArray, List.set_cons_zero, List.set_cons_succ]
        refine RX.seqP_value (fun _ => Below.refl _ _) _ (by first | rfl | simp) (fun w' hw' hctx => by (go_simp); (try first | with_reducible rfl | simp)) ?_
        simp only [Act.put, List.setIfInBounds_toArray, List.set_cons_zero, List.set_cons_succ]
        refine RX.seqP_value (fun _ => Below.refl _ _) _ (by first | rfl | simp) (fun w' hw' hctx => by (go_simp); (try first | with_reducible rfl | simp)) ?_
        simp only [Act.put, List.setIfInBounds_toArray, List.set_cons_zero, List.set_cons_succ]
        refine RX.seqP_value (fun _ => Below.refl _ _) _ (by first | rfl | simp) (fun w' hw' hctx => ?_) ?_
        · obtain ⟨d0, d1⟩ := HD.out w' (below_tr hdr hw')
          go_simp
          try first | with_reducible rfl | simp
        simp only [Act.put, List.setIfInBounds_toArray, List.set_cons_zero, List.set_cons_succ]
        refine RX.seqP_value (fun _ => Below.refl _ _) _ (by first | rfl | simp) (fun w' hw' hctx => ?_) ?_
        · obtain ⟨k0, k1, _, _⟩ := (HL.out.below (below_tr BW.out (below_tr hdr hw'))).two
          go_simp
          try first | with_reducible rfl | simp
        simp only [Act.put, List.setIfInBounds_toArray, List.set_cons_zero, List.set_cons_succ]
        refine RX.seqP_call (39) #[.agg #[.slice x.a x.e.key.length x.c, .int .i64 x.e.id], .agg #[.slice ka kn kc, .int .i64 id]] (.int .i64 r) (by first | rfl | simp) (fun w' hw' hctx => ?_) (fun w' hw' hctx => HCON.out w' (below_tr hdr hw')) ?_
        · go_simp
        simp only [Act.put, List.setIfInBounds_toArray, List.set_cons_zero, List.set_cons_succ]
        refine RX.seqP_value (fun _ => Below.refl _ _) _ (by first | rfl | simp) (fun w' hw' hctx => by (go_simp); (try first | with_reducible rfl | simp)) ?_
        simp only [Act.put, List.setIfInBounds_toArray, List.set_cons_zero, List.set_cons_succ]
        refine RX.seqP_value (fun _ => Below.refl _ _) _ (by first | rfl | simp) (fun w' hw' hctx => by (go_simp); (try first | with_reducible rfl | simp)) ?_
        simp only [Act.put, List.setIfInBounds_toArray, List.set_cons_zero, List.set_cons_succ]
        refine RX.seqP_value (fun _ => Below.refl _ _) _ (by first | rfl | simp) (fun w' hw' hctx => by (go_simp); (try first | with_reducible rfl | simp)) ?_
        simp only [Act.put, List.setIfInBounds_toArray, List.set_cons_zero, List.set_cons_succ]
        refine RX.seqP_value (fun _ => Below.refl _ _) _ (by first | rfl | simp) (fun w' hw' hctx => by (go_simp); (try first | with_reducible rfl | simp)) ?_
        simp only [Act.put, List.setIfInBounds_toArray, List.set_cons_zero, List.set_cons_succ]
        refine RX.seqP_nil (fun w2 hR hctx _ => ?_)
        have hb2 := below_tr hdr hR
        clear hctx hR
        have HB2 := Lib.hid (below_tr (below_tr HAL.out BW.out) hb2)
        clear hb2 hdr
        go_wp2_with fail
        go_ret2
        exact ⟨by rw [hzr]; rfl, HB2.out⟩
      · have hendz : decide ((hi : Int) < (n : Int)) = false := by simp; omega
        have hendy : ¬ (hi : Int) < (n : Int) := by omega
        obtain rfl : z = false := by
          rw [← HZ.out, decide_eq_false_iff_not, List.getElem?_eq_none (by simp [entsC, HN.out]; omega)]
          simp
        go_wp2_with fail
        go_region
        go_wp2_with fail
        go_ret2
        exact ⟨rfl, below_tr HAL.out (below_tr BW.out (below_drw wr))⟩

set_option maxRecDepth 100000 in
set_option maxHeartbeats 2000000 in
theorem bsk_is (a ka : Option Addr) (c n kc kn : Nat) (es : List CE) (key : List Val) (i0 : Nat) (hn : es.length = n) (hn2 : n ≤ 1000) (hkn : key.length = kn) (w : World) (hr : RowS 2 w a n c (flatC es)) (hks : ∀ x ∈ es, SlL w x.a x.c x.e.key) (hk : SlL w ka kc key)
    (hh : HereK (entsC es) key i0) :
    Calls Try.prog 48 #[.slice a n c, .slice ka kn kc, .func (.func 34) #[] #[]] w fun e w' => ∃ z : Value, e = .returned (.tuple #[.int .i64 (i0 : Int), z]) ∧ Below w.heap.size w w' := by
  have hi0 : i0 ≤ n := by have := hh.1; simpa [entsC, hn] using this
  have HR := Lib.hid hr
  have HKS := Lib.hid hks
  have HK := Lib.hid hk
  have HH := Lib.hid hh
  have HN := Lib.hid hn
  have HKN := Lib.hid hkn
  clear hr hks hk hh hn hkn
  go_enter Try.func48, Try.ntmps48
  go_wp2_with fail
  go_loopg [9, 10] n (fun gg s9 s10 wr => ∃ lo hi : Nat, s9 = .int .i64 lo ∧ s10 = .int .i64 hi ∧ lo ≤ i0 ∧ i0 ≤ hi ∧ hi ≤ n ∧ hi - lo ≤ gg ∧ Hid (Below w.heap.size w wr))
  case atStart => exact ⟨0, n, rfl, rfl, Nat.zero_le _, hi0, Nat.le_refl _, by omega, Lib.hid (Below.refl _ _)⟩
  case round =>
    obtain ⟨lo, hi, rfl, rfl, hl, hh, hin, hgg, BW⟩ := hrel
    by_cases hlt : lo < hi
    · have hltz : (lo : Int) < (hi : Int) := by omega
      obtain ⟨m, hm⟩ : ∃ m, (lo + hi) / 2 = m := ⟨_, rfl⟩
      have hmz : ((lo : Int) + (hi : Int)) / 2 = (m : Int) := by omega
      have hmn : m < n := by omega
      have hmnz : (m : Int) < (n : Int) := by omega
      obtain ⟨x, hx⟩ : ∃ x, es[m]? = some x := ⟨es[m]'(by rw [HN.out]; exact hmn), by simp⟩
      obtain ⟨b, o, rfl, d0, d1, _⟩ := ent_at (HR.out.below BW.out) hx
      obtain ⟨r, hr⟩ : ∃ r, cmpL x.e.key key = r := ⟨_, rfl⟩
      have hcon := fun (W : World) (hb : Below wr.heap.size wr W) => ckey_is x.a ka x.c kc x.e.key.length kn x.e.key key x.e.id r rfl HKN.out hr W ((HKS.out x (List.mem_of_getElem? hx)).below (below_tr BW.out hb)) (HK.out.below (below_tr BW.out hb))
      have HCON := Lib.hid hcon
      have HX := Lib.hid (And.intro hx hr)
      clear hcon hx hr
      have hxe : (entsC es)[m]? = some x.e := ents_get HX.out.1
      have HXE := Lib.hid hxe
      clear hxe
      by_cases hq : r < 0
      · go_wp2_with fail
        refine (HCON.out _ (Below.refl _ _)).mono ?_
        rintro e w2 ⟨rfl, hb2⟩
        have HB2 := Lib.hid (below_tr BW.out hb2)
        clear d0 d1 hb2
        go_wp2_with fail
        go_roundg (hi - (m + 1))
        case measure => omega
        case rel =>
          refine ⟨m + 1, hi, by go_num, rfl, ?_, hh, hin, Nat.le_refl _, HB2⟩
          apply Classical.byContradiction
          intro hc
          have := HH.out.2.2 m x.e (by omega) HXE.out
          rw [ltK, decide_eq_false_iff_not, HX.out.2] at this
          exact absurd hq this
      · go_wp2_with fail
        refine (HCON.out _ (Below.refl _ _)).mono ?_
        rintro e w2 ⟨rfl, hb2⟩
        have HB2 := Lib.hid (below_tr BW.out hb2)
        clear d0 d1 hb2
        go_wp2_with fail
        go_roundg (m - lo)
        case measure => omega
        case rel =>
          refine ⟨lo, m, rfl, rfl, hl, ?_, by omega, Nat.le_refl _, HB2⟩
          apply Classical.byContradiction
          intro hc
          have := HH.out.2.1 m x.e (by omega) HXE.out
          rw [ltK, decide_eq_true_iff, HX.out.2] at this
          exact absurd this (by omega)
    · obtain rfl : i0 = lo := by omega
      obtain rfl : hi = i0 := by omega
      by_cases hend : hi < n
      · have hendz : decide ((hi : Int) < (n : Int)) = true := by simp; omega
        have hendy : (hi : Int) < (n : Int) := by omega
        obtain ⟨x, hx⟩ : ∃ x, es[hi]? = some x := ⟨es[hi]'(by rw [HN.out]; exact hend), by simp⟩
        obtain ⟨b, o, rfl, d0, d1, _⟩ := ent_at (HR.out.below BW.out) hx
        obtain ⟨r, hr⟩ : ∃ r, cmpL x.e.key key = r := ⟨_, rfl⟩
        have hcon := fun (W : World) (hb : Below wr.heap.size wr W) => ckey_is x.a ka x.c kc x.e.key.length kn x.e.key key x.e.id r rfl HKN.out hr W ((HKS.out x (List.mem_of_getElem? hx)).below (below_tr BW.out hb)) (HK.out.below (below_tr BW.out hb))
        have HCON := Lib.hid hcon
        clear hcon hx hr
        go_wp2_with fail
        refine (HCON.out _ (Below.refl _ _)).mono ?_
        rintro e w2 ⟨rfl, hb2⟩
        have HB2 := Lib.hid (below_tr BW.out hb2)
        clear d0 d1 hb2
        go_wp2_with fail
        go_ret2
        exact ⟨_, rfl, HB2.out⟩
      · have hendz : decide ((hi : Int) < (n : Int)) = false := by simp; omega
        have hendy : ¬ (hi : Int) < (n : Int) := by omega
        go_wp2_with fail
        go_ret2
        exact ⟨⟨_, rfl⟩, BW.out⟩

end Go.Proofs.Ytfikaccgpjiedaa

