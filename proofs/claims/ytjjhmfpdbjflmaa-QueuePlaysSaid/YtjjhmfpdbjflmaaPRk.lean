/-
  The document's lock as it lies; Held, place, bit, mode, New of it (stage 14).
-/
import Derived.Test.YtjjhmfpdbjflmaaPApp
namespace Go.Proofs.Ytjjhmfpdbjflmaa
open Go.RowKit
set_option linter.unusedVariables false

/-! ### Rows of who holds (k), or waits -/

def eO (k : Bool) (p : Int × Int) : List Value := [.int .i64 p.1, .int .u16 (if k then p.2 else 0), .int .u8 (if k then 0 else p.2)]
def RowO (k : Bool) (W : World) (s : Value) (l : PL) : Prop := RowF 71 3 W s l.length (fun j => eO k (l.getD j (0, 0)))
section
variable {k : Bool} {W W' : World} {s : Value} {l : PL}
theorem RowO.form (h : RowO k W s l) : ∃ a c, s = .slice a l.length c ∧ l.length ≤ c ∧ c ≤ maxLen := RowF.form h
theorem RowO.nil (k : Bool) (W : World) : RowO k W (.slice none 0 0) [] := RowF.nil _ _ _ _
theorem RowO.below (h : RowO k W s l) (hb : Below W.heap.size W W') : RowO k W' s l := RowF.below h hb
theorem RowO.stay {G : Nat → Prop} (h : RowO k W s l) (hs : Stay G W W') (hG : ∀ j, s.ownBlock = some j → G j) : RowO k W' s l := RowF.stay h hs hG
theorem RowO.lt (h : RowO k W s l) : ∀ j, s.ownBlock = some j → j < W.heap.size := RowF.lt h
theorem RowO.look {a : Option Addr} {n c i : Nat} {p : Int × Int} (h : RowO k W (.slice a n c) l) (hp : l[i]? = some p) : ∃ b, a = some ⟨b, 0, none⟩ ∧ b < W.heap.size ∧ W.cell? ⟨b, i * 3, none⟩ = some (.int .i64 p.1) ∧ W.cell? ⟨b, i * 3 + 1, none⟩ = some (.int .u16 (if k then p.2 else 0)) ∧ W.cell? ⟨b, i * 3 + 2, none⟩ = some (.int .u8 (if k then 0 else p.2)) ∧ ∀ o, W.frozen? ⟨b, o, none⟩ = false := by
  obtain ⟨hi, e⟩ := List.getElem?_eq_some_iff.1 hp
  obtain ⟨b, c', e1, -, -, h4, h5, h6⟩ := RowF.at h hi
  simp only [Value.slice.injEq] at e1
  obtain ⟨rfl, -, -⟩ := e1
  have hg : l.getD i (0, 0) = p := by simp [hi, e]
  have h5 := h5 i hi
  rw [hg] at h5
  exact ⟨b, rfl, h4, h5 0 _ rfl, h5 1 _ rfl, h5 2 _ rfl, h6⟩
theorem RowO.cell {b n c i : Nat} {p : Int × Int} (h : RowO k W (.slice (some ⟨b, 0, none⟩) n c) l) (hp : l[i]? = some p) : b < W.heap.size ∧ W.cell? ⟨b, i * 3, none⟩ = some (.int .i64 p.1) ∧ W.cell? ⟨b, i * 3 + 1, none⟩ = some (.int .u16 (if k then p.2 else 0)) ∧ W.cell? ⟨b, i * 3 + 2, none⟩ = some (.int .u8 (if k then 0 else p.2)) ∧ ∀ o, W.frozen? ⟨b, o, none⟩ = false := by
  obtain ⟨b', e, h1⟩ := h.look hp
  cases e
  exact h1
theorem RowO.cap {a : Option Addr} {n c : Nat} (h : RowO k W (.slice a n c) l) : n ≤ c ∧ c ≤ maxLen ∧ n = l.length := by
  obtain ⟨a', c', e, h1, h2⟩ := RowO.form h
  simp only [Value.slice.injEq] at e
  obtain ⟨-, rfl, rfl⟩ := e
  exact ⟨h1, h2, rfl⟩
end
theorem get_pl {l : PL} {i : Nat} (h : i < l.length) : ∃ p, l[i]? = some p := ⟨l[i], by simp [h]⟩

/-! ### The document's lock -/

structure RkM (W : World) (x : Nat) (s t : Value) (A : Lk) : Prop where
  lit : Lit W x 61 [.int .u8 A.c, s, t]
  hd : RowO true W s A.hd
  wt : RowO false W t A.wt
  ownH : ∀ k, s.ownBlock = some k → k ≠ x ∧ t.ownBlock ≠ some k
  ownW : ∀ k, t.ownBlock = some k → k ≠ x
def RkF (x : Nat) (s t : Value) (k : Nat) : Prop := k = x ∨ s.ownBlock = some k ∨ t.ownBlock = some k
section
variable {W W' : World} {x : Nat} {s t : Value} {A : Lk}
theorem RkM.stay (H : RkM W x s t A) (hs : Stay (RkF x s t) W W') : RkM W' x s t A :=
  ⟨H.lit.stay hs (.inl rfl), H.hd.stay hs (fun k hk => .inr (.inl hk)), H.wt.stay hs (fun k hk => .inr (.inr hk)), H.ownH, H.ownW⟩
theorem RkM.below (H : RkM W x s t A) (hb : Below W.heap.size W W') : RkM W' x s t A := H.stay (Stay.of_below hb)
theorem RkM.lt (H : RkM W x s t A) : ∀ k, RkF x s t k → k < W.heap.size := by
  rintro k (rfl | hk | hk)
  · exact H.lit.lt
  · exact H.hd.lt k hk
  · exact H.wt.lt k hk
theorem RkM.cells (H : RkM W x s t A) : W.cell? ⟨x, 0, none⟩ = some (.int .u8 A.c) ∧ W.cell? ⟨x, 1, none⟩ = some s ∧ W.cell? ⟨x, 2, none⟩ = some t ∧ x < W.heap.size := ⟨H.lit.cell rfl, H.lit.cell rfl, H.lit.cell rfl, H.lit.lt⟩
end

theorem held_first {l : PL} {x : Int} {i : Nat} {p : Int × Int} (hp : l[i]? = some p) (hx : p.1 = x) (h : ∀ j : Nat, j < i → ∀ q, l[j]? = some q → q.1 ≠ x) : heldL l x = p.2 := by
  induction l generalizing i with
  | nil => simp at hp
  | cons q l ih =>
    unfold heldL
    cases i with
    | zero =>
      simp at hp
      subst hp
      rw [if_pos hx]
    | succ i =>
      rw [if_neg (h 0 (Nat.succ_pos i) q rfl)]
      exact ih (by simpa using hp) (fun j hj r hr => h (j + 1) (by omega) r (by simpa using hr))
theorem held_no {l : PL} {x : Int} (h : ∀ (j : Nat) (q : Int × Int), l[j]? = some q → q.1 ≠ x) : heldL l x = 0 := by
  induction l with
  | nil => rfl
  | cons q l ih =>
    unfold heldL
    rw [if_neg (h 0 q rfl)]
    exact ih (fun j r hr => h (j + 1) r (by simpa using hr))

set_option maxRecDepth 100000 in
set_option maxHeartbeats 4000000 in
theorem rheld_ex (w : World) (x : Nat) (a : Option Addr) (n c : Nat) (t : Value) (A : Lk) (y : Int) (H : RkM w x (.slice a n c) t A) (r : Int) (hr : heldL A.hd y = r) :
    Calls Try.prog 43 #[.pointer (some ⟨x, 0, none⟩), .int .i64 y] w fun e w' => e = .returned (.int .u16 r) ∧ Below w.heap.size w w' := by
  obtain ⟨hn1, hn2, hln⟩ := H.hd.cap
  have hn : n ≤ 9223372036854775807 := by unfold maxLen at hn2; omega
  obtain ⟨d0, d1, d2, dl⟩ := H.cells
  have HR := Lib.hid H.hd
  have HL := Lib.hid hln
  have HQ := Lib.hid hr
  clear H hln hr hn2
  go_enter Try.func43, Try.ntmps43
  go_wp2_with fail
  go_loopg [5] n (fun gg s5 wr => ∃ (i : Nat), s5 = .int .i64 i ∧ i ≤ n ∧ n - i ≤ gg ∧ wr = w ∧ Hid (∀ j : Nat, j < i → ∀ q, A.hd[j]? = some q → q.1 ≠ y))
  case atStart => exact ⟨0, rfl, Nat.zero_le _, by omega, rfl, Lib.hid (fun j hj => by omega)⟩
  case round =>
    obtain ⟨i, rfl, hi, hgg, rfl, HN⟩ := hrel
    by_cases hlt : i < n
    · have hltz : (i : Int) < (n : Int) := by omega
      obtain ⟨p, hp⟩ := get_pl (l := A.hd) (i := i) (by rw [← HL.out]; exact hlt)
      obtain ⟨b, e1, hbl, c0, c1, -, -⟩ := HR.out.look hp
      subst e1
      simp only [if_true] at c1
      obtain ⟨pz, pm⟩ := p
      have c0 : wr.cell? ⟨b, i * 3, none⟩ = some (.int .i64 pz) := c0
      have c1 : wr.cell? ⟨b, i * 3 + 1, none⟩ = some (.int .u16 pm) := c1
      have HP := Lib.hid hp
      have HLT := Lib.hid (And.intro hlt (And.intro hi hgg))
      clear hi hgg hp
      by_cases hyx : pz = y
      · have hc : (pz == y) = true := by simpa using hyx
        go_wp2_with fail
        go_ret
        have e9 := HQ.out
        rw [held_first HP.out hyx HN.out] at e9
        subst e9
        exact ⟨rfl, Below.refl _ _⟩
      · have hc : (pz == y) = false := by simpa using hyx
        have HNE := Lib.hid hyx
        clear hyx
        go_wp2_with fail
        go_roundg (n - (i + 1))
        case measure => have := HLT.out; omega
        case rel => exact ⟨i + 1, by go_num, by have := HLT.out; omega, Nat.le_refl _, rfl, Lib.hid (fun j hj q hq => by
          by_cases e : j = i
          · subst e
            rw [HP.out] at hq
            cases hq
            exact HNE.out
          · exact HN.out j (by omega) q hq)⟩
    · have hltz : ¬ (i : Int) < (n : Int) := by omega
      have hni : i = n := by omega
      subst hni
      go_wp2_with fail
      go_ret
      have e9 := HQ.out
      rw [held_no fun j q hq => HN.out j (by have := (List.getElem?_eq_some_iff.1 hq).1; rw [HL.out]; exact this) q hq] at e9
      subst e9
      exact ⟨rfl, Below.refl _ _⟩
theorem rheld_is (w : World) (x : Nat) (s t : Value) (A : Lk) (y : Int) (H : RkM w x s t A) (r : Int) (hr : heldL A.hd y = r) :
    Calls Try.prog 43 #[.pointer (some ⟨x, 0, none⟩), .int .i64 y] w fun e w' => e = .returned (.int .u16 r) ∧ Below w.heap.size w w' := by
  obtain ⟨a, c, rfl, -, -⟩ := H.hd.form
  exact rheld_ex w x a _ c t A y H r hr

set_option maxRecDepth 100000 in
set_option maxHeartbeats 4000000 in
theorem rplace_ex (w : World) (x : Nat) (a : Option Addr) (n c : Nat) (s : Value) (A : Lk) (y : Int) (H : RkM w x s (.slice a n c) A) (r : Int) (hr : placeI A.wt y = r) :
    Calls Try.prog 44 #[.pointer (some ⟨x, 0, none⟩), .int .i64 y] w fun e w' => e = .returned (.int .i64 r) ∧ Below w.heap.size w w' := by
  obtain ⟨hn1, hn2, hln⟩ := H.wt.cap
  have hn : n ≤ 9223372036854775807 := by unfold maxLen at hn2; omega
  obtain ⟨d0, d1, d2, dl⟩ := H.cells
  have HR := Lib.hid H.wt
  have HL := Lib.hid hln
  have HQ := Lib.hid hr
  clear H hln hr hn2
  go_enter Try.func44, Try.ntmps44
  go_wp2_with fail
  go_loopg [5] n (fun gg s5 wr => ∃ (i : Nat), s5 = .int .i64 i ∧ i ≤ n ∧ n - i ≤ gg ∧ wr = w ∧ Hid (∀ j : Nat, j < i → ∀ q, A.wt[j]? = some q → q.1 ≠ y))
  case atStart => exact ⟨0, rfl, Nat.zero_le _, by omega, rfl, Lib.hid (fun j hj => by omega)⟩
  case round =>
    obtain ⟨i, rfl, hi, hgg, rfl, HN⟩ := hrel
    by_cases hlt : i < n
    · have hltz : (i : Int) < (n : Int) := by omega
      obtain ⟨p, hp⟩ := get_pl (l := A.wt) (i := i) (by rw [← HL.out]; exact hlt)
      obtain ⟨b, e1, hbl, c0, -, -, -⟩ := HR.out.look hp
      subst e1
      obtain ⟨pz, pm⟩ := p
      have c0 : wr.cell? ⟨b, i * 3, none⟩ = some (.int .i64 pz) := c0
      have HP := Lib.hid hp
      have HLT := Lib.hid (And.intro hlt (And.intro hi hgg))
      clear hi hgg hp
      by_cases hyx : pz = y
      · have hc : (pz == y) = true := by simpa using hyx
        go_wp2_with fail
        go_ret
        have e9 := HQ.out
        rw [place_at HP.out hyx HN.out] at e9
        subst e9
        exact ⟨rfl, Below.refl _ _⟩
      · have hc : (pz == y) = false := by simpa using hyx
        have HNE := Lib.hid hyx
        clear hyx
        go_wp2_with fail
        go_roundg (n - (i + 1))
        case measure => have := HLT.out; omega
        case rel => exact ⟨i + 1, by go_num, by have := HLT.out; omega, Nat.le_refl _, rfl, Lib.hid (fun j hj q hq => by
          by_cases e : j = i
          · subst e
            rw [HP.out] at hq
            cases hq
            exact HNE.out
          · exact HN.out j (by omega) q hq)⟩
    · have hltz : ¬ (i : Int) < (n : Int) := by omega
      have hni : i = n := by omega
      subst hni
      go_wp2_with fail
      go_ret
      have e9 := HQ.out
      rw [place_no fun j q hq => HN.out j (by have := (List.getElem?_eq_some_iff.1 hq).1; rw [HL.out]; exact this) q hq] at e9
      subst e9
      exact ⟨rfl, Below.refl _ _⟩
theorem rplace_is (w : World) (x : Nat) (s t : Value) (A : Lk) (y : Int) (H : RkM w x s t A) (r : Int) (hr : placeI A.wt y = r) :
    Calls Try.prog 44 #[.pointer (some ⟨x, 0, none⟩), .int .i64 y] w fun e w' => e = .returned (.int .i64 r) ∧ Below w.heap.size w w' := by
  obtain ⟨a, c, rfl, -, -⟩ := H.wt.form
  exact rplace_ex w x a _ c s A y H r hr

theorem bit_with (m : Int) (hm : U8 m) (h15 : m < 16) : IntKind.u16.wrap ((2 : Int) ^ m.toNat) = withN 0 m := by
  rw [wrap_two (by omega)]
  unfold withN
  rw [if_pos h15]
  simp

set_option maxRecDepth 100000 in
set_option maxHeartbeats 4000000 in
theorem rbit_is (m : Int) (hm : U8 m) (h15 : m < 16) (w : World) (r : Int) (hr : withN 0 m = r) : Calls Try.prog 60 #[.int .u8 m] w fun e w' => e = .returned (.int .u16 r) ∧ Below w.heap.size w w' := by
  have hb := bit_with m hm h15
  rw [hr] at hb
  have h0 := hm.1
  have h1 : m.toNat < 16 := by omega
  clear hm hr
  go_enter Try.func60, Try.ntmps60
  go_wp2_with fail
  go_ret
  exact ⟨by first | rfl | (rw [hb]) | simp [hb], Below.refl _ _⟩

set_option maxRecDepth 100000 in
set_option maxHeartbeats 4000000 in
theorem rmode_is (w : World) (x : Nat) (s t : Value) (A : Lk) (m : Int) (hm : U8 m) (hc : A.c = 1 ∨ A.c = 2) (H : RkM w x s t A) (r : Bool) (hr : mayB A.c m = r) :
    Calls Try.prog 41 #[.pointer (some ⟨x, 0, none⟩), .int .u8 m] w fun e w' => e = .returned (.bool r) ∧ Below w.heap.size w w' := by
  obtain ⟨d0, d1, d2, dl⟩ := H.cells
  clear H
  obtain ⟨c, hcc⟩ : ∃ c, A.c = c := ⟨_, rfl⟩
  rw [hcc] at hc hr d0
  clear hcc
  have h0 := hm.1
  by_cases h1 : (1 : Int) ≤ m
  · rcases hc with rfl | rfl
    · by_cases h2 : m ≤ 8
      · have hr : true = r := by rw [← hr]; unfold mayB; simp; omega
        subst hr
        clear hm
        go_enter Try.func41, Try.ntmps41
        go_wp2_with fail
        go_ret
        exact ⟨rfl, Below.refl _ _⟩
      · have hr : false = r := by rw [← hr]; unfold mayB; simp; omega
        subst hr
        clear hm
        go_enter Try.func41, Try.ntmps41
        go_wp2_with fail
        go_ret
        exact ⟨rfl, Below.refl _ _⟩
    · by_cases h2 : m ≤ 2
      · have hr : true = r := by rw [← hr]; unfold mayB; simp; omega
        subst hr
        clear hm
        go_enter Try.func41, Try.ntmps41
        go_wp2_with fail
        go_ret
        exact ⟨rfl, Below.refl _ _⟩
      · have hr : false = r := by rw [← hr]; unfold mayB; simp; omega
        subst hr
        clear hm
        go_enter Try.func41, Try.ntmps41
        go_wp2_with fail
        go_ret
        exact ⟨rfl, Below.refl _ _⟩
  · have hr : false = r := by rw [← hr]; unfold mayB; rcases hc with rfl | rfl <;> simp <;> omega
    subst hr
    clear hm
    go_enter Try.func41, Try.ntmps41
    go_wp2_with fail
    go_ret
    exact ⟨rfl, Below.refl _ _⟩

set_option maxRecDepth 100000 in
theorem rnew_is (c : Int) (w : World) (hc : c = 1 ∨ c = 2) : Calls Try.prog 10 #[.int .u8 c] w fun e w' => ∃ x, e = .returned (.tuple #[.pointer (some ⟨x, 0, none⟩), .int .i64 0]) ∧ RkM w' x (.slice none 0 0) (.slice none 0 0) (Lk.new c) ∧ w.heap.size ≤ x ∧ Below w.heap.size w w' := by
  have hl := Lit.new w 61 [.int .u8 c, .slice none 0 0, .slice none 0 0]
  have hb := Below.allocs w (.cells #[.int .u8 c, .slice none 0 0, .slice none 0 0] 61)
  have HE : Hid (RkM (w.alloc (.cells #[.int .u8 c, .slice none 0 0, .slice none 0 0] 61)) w.heap.size (.slice none 0 0) (.slice none 0 0) (Lk.new c) ∧ Below w.heap.size w (w.alloc (.cells #[.int .u8 c, .slice none 0 0, .slice none 0 0] 61))) := Lib.hid ⟨⟨hl, RowO.nil _ _, RowO.nil _ _, fun k hk => (by cases hk), fun k hk => (by cases hk)⟩, hb⟩
  clear hl hb
  rcases hc with rfl | rfl
  · go_enter Try.func10, Try.ntmps10
    go_wp2_with fail
    refine bodyPost_ret (v := .tuple #[.pointer (some ⟨w.heap.size, 0, none⟩), .int .i64 0]) (by first | (simp [results, Try.results10, go_sem]; done) | (simp [results, Try.results10, go_sem]; rfl)) rfl ?_
    exact ⟨_, rfl, HE.out.1, Nat.le_refl _, HE.out.2⟩
  · go_enter Try.func10, Try.ntmps10
    go_wp2_with fail
    refine bodyPost_ret (v := .tuple #[.pointer (some ⟨w.heap.size, 0, none⟩), .int .i64 0]) (by first | (simp [results, Try.results10, go_sem]; done) | (simp [results, Try.results10, go_sem]; rfl)) rfl ?_
    exact ⟨_, rfl, HE.out.1, Nat.le_refl _, HE.out.2⟩
set_option maxRecDepth 100000 in
theorem rnew_bad (c : Int) (w : World) (h1 : c ≠ 1) (h2 : c ≠ 2) : Calls Try.prog 10 #[.int .u8 c] w fun e w' => e = .returned (.tuple #[.pointer none, .int .i64 1]) ∧ Below w.heap.size w w' := by
  have e1 : (c != 1) = true := by simpa using h1
  have e2 : (c != 2) = true := by simpa using h2
  go_enter Try.func10, Try.ntmps10
  go_wp2_with fail
  refine bodyPost_ret (v := .tuple #[.pointer none, .int .i64 1]) (by first | (simp [results, Try.results10, go_sem]; done) | (simp [results, Try.results10, go_sem]; rfl)) rfl ?_
  exact ⟨rfl, Below.refl _ _⟩

end Go.Proofs.Ytjjhmfpdbjflmaa
