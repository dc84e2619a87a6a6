/-
  without of the document's lock (stage 14).
-/
import Derived.Test.YtjjhmfpdbjflmaaPRput
namespace Go.Proofs.Ytjjhmfpdbjflmaa
open Go.RowKit
set_option linter.unusedVariables false

theorem rowO_push {kk : Bool} {W : World} {s : Value} {l : PL} (h : RowO kk W s l) (p : Int × Int) (z u m : Int) (he : eO kk p = [.int .i64 z, .int .u16 u, .int .u8 m]) (hn : l.length + 1 ≤ 1000000) :
    ∃ a' c' W6, (∀ ty, (Builtin.append_ #[59, 59] ty #[s, .slice (some ⟨W.heap.size, 0, none⟩) 1 1]).run Try.prog (W.alloc (.cells #[.int .i64 z, .int .u16 u, .int .u8 m] 71)) = .ok (.slice a' (l.length + 1) c') W6) ∧ RowO kk W6 (.slice a' (l.length + 1) c') (l ++ [p]) ∧ Touch (fun j => s.ownBlock = some j) W W6 ∧ ∀ j, Value.ownBlock (.slice a' (l.length + 1) c') = some j → s.ownBlock = some j ∨ W.heap.size ≤ j := by
  have hal := Below.allocs W (.cells #[.int .i64 z, .int .u16 u, .int .u8 m] 71)
  have hlit := Lit.new W 71 [.int .i64 z, .int .u16 u, .int .u8 m]
  obtain ⟨a', c', W6, r, q, t, o⟩ := row_appO (h.below hal) (b := W.heap.size) (off := 0) (k := 1) (c := 1) [p] rfl (fun j q hj i v hv => by
    cases j with
    | zero =>
      simp only [List.getElem?_cons_zero, Option.some.injEq] at hj
      subst hj
      rw [he] at hv
      rw [Nat.zero_mul, Nat.zero_add, Nat.zero_add]
      exact hlit.cell hv
    | succ j => simp at hj) hn
  refine ⟨a', c', W6, r, q, (Touch.of_below hal).trans t (fun _ _ h => h), fun j hj => (o j hj).imp id (fun e => Nat.le_trans hal.size e)⟩

theorem without_take {l : PL} {i : Nat} {p : Int × Int} (h : l[i]? = some p) (y : Int) : without (l.take (i + 1)) y = without (l.take i) y ++ if p.1 = y then [] else [p] := by
  unfold without
  rw [List.take_add_one, h, List.filter_append]
  by_cases e : p.1 = y <;> simp [e]

set_option maxRecDepth 100000 in
set_option maxHeartbeats 8000000 in
theorem rwo_ex (kk : Bool) (w : World) (a : Option Addr) (n c : Nat) (l : PL) (y : Int) (hlen : l.length ≤ 100000) (h : RowO kk w (.slice a n c) l) :
    Calls Try.prog 35 #[.slice a n c, .int .i64 y] w fun e w' => ∃ v, e = .returned v ∧ RowO kk w' v (without l y) ∧ (∀ k, v.ownBlock = some k → w.heap.size ≤ k) ∧ Below w.heap.size w w' := by
  obtain ⟨hnc, hcm, hln⟩ := h.cap
  have hn : n ≤ 100000 := by omega
  have HR := Lib.hid h
  have HL := Lib.hid hln
  clear h hln hlen
  go_enter Try.func35, Try.ntmps35
  go_wp2_with fail
  go_loopg [5, 6] n (fun gg s5 s6 wr => ∃ (i : Nat) (vo : Value), vo = s5 ∧ s6 = .int .i64 i ∧ i ≤ n ∧ n - i ≤ gg ∧ Hid (RowO kk wr vo (without (l.take i) y) ∧ ∀ k, vo.ownBlock = some k → w.heap.size ≤ k) ∧ Hid (Below w.heap.size w wr))
  case atStart => exact ⟨0, _, rfl, rfl, Nat.zero_le _, by omega, Lib.hid ⟨RowO.nil _ _, fun k hk => by cases hk⟩, Lib.hid (Below.refl _ _)⟩
  case round =>
    obtain ⟨i, vo, rfl, rfl, hi, hgg, HO, HB⟩ := hrel
    by_cases hlt : i < n
    · have hltz : (i : Int) < (n : Int) := by omega
      obtain ⟨p, hp⟩ := get_pl (l := l) (i := i) (by rw [← HL.out]; exact hlt)
      obtain ⟨b, e1, hbl, q0, q1, q2, -⟩ := (HR.out.below HB.out).look hp
      subst e1
      obtain ⟨z, v⟩ := p
      have HP := Lib.hid hp
      have HLT := Lib.hid (And.intro hlt (And.intro hi hgg))
      obtain ⟨u, hu⟩ : ∃ u, (if kk = true then v else 0) = u := ⟨_, rfl⟩
      obtain ⟨m, hm⟩ : ∃ u, (if kk = true then 0 else v) = u := ⟨_, rfl⟩
      have he : eO kk (z, v) = [.int .i64 z, .int .u16 u, .int .u8 m] := by unfold eO; rw [← hu, ← hm]
      have r0 : wr.cell? ⟨b, i * 3, none⟩ = some (Value.int .i64 z) := q0
      have r1 : wr.cell? ⟨b, i * 3 + 1, none⟩ = some (Value.int .u16 u) := by rw [← hu]; exact q1
      have r2 : wr.cell? ⟨b, i * 3 + 2, none⟩ = some (Value.int .u8 m) := by rw [← hm]; exact q2
      clear hp hi hgg hu hm q0 q1 q2
      by_cases hzy : z = y
      · have hne : (z != y) = false := by rw [hzy]; exact bne_self_eq_false y
        have HOn : Hid (RowO kk wr vo (without (l.take (i + 1)) y) ∧ ∀ k, vo.ownBlock = some k → w.heap.size ≤ k) := Lib.hid ⟨by rw [without_take HP.out, if_pos hzy, List.append_nil]; exact HO.out.1, HO.out.2⟩
        clear hzy he HO
        go_wp2_with fail
        go_roundg (n - (i + 1))
        case measure => have := HLT.out; omega
        case rel => exact ⟨i + 1, vo, rfl, by go_num, by have := HLT.out; omega, Nat.le_refl _, HOn, HB⟩
      · have hne : (z != y) = true := by simpa using hzy
        obtain ⟨a', c', W6, r, q, t, o⟩ := rowO_push HO.out.1 (z, v) z u m he (by
          have h1 := without_len (l.take i) y
          have h2 : (l.take i).length ≤ i := List.length_take_le _ _
          have := HLT.out
          omega)
        have HOn : Hid (RowO kk W6 (.slice a' ((without (l.take i) y).length + 1) c') (without (l.take (i + 1)) y) ∧ ∀ k, Value.ownBlock (.slice a' ((without (l.take i) y).length + 1) c') = some k → w.heap.size ≤ k) := Lib.hid ⟨by rw [without_take HP.out, if_neg hzy]; exact q, fun k hk => (o k hk).elim (HO.out.2 k) (fun e => Nat.le_trans HB.out.size e)⟩
        have HBn : Hid (Below w.heap.size w W6) := Lib.hid (HB.out.trans (t.below (fun j hj => HO.out.2 j hj) HB.out.size))
        have R := Lib.hid r
        clear hzy he HO HB r q t o
        go_wp2_with (first | (at_builtin; refine append_stepW rfl _ _ 59 rfl _ _ _ _ rfl rfl (R.out _) ?_) | fail)
        go_roundg (n - (i + 1))
        case measure => have := HLT.out; omega
        case rel => exact ⟨i + 1, _, rfl, by go_num, by have := HLT.out; omega, Nat.le_refl _, HOn, HBn⟩
    · have hltz : ¬ (i : Int) < (n : Int) := by omega
      have hin : i = n := by omega
      have HE : Hid (RowO kk wr vo (without l y) ∧ (∀ k, vo.ownBlock = some k → w.heap.size ≤ k) ∧ Below w.heap.size w wr) := Lib.hid ⟨by
        have h1 := HO.out.1
        rw [hin, HL.out, List.take_length] at h1
        exact h1, HO.out.2, HB.out⟩
      clear HO HB hin
      go_wp2_with fail
      go_ret
      exact ⟨_, rfl, HE.out.1, HE.out.2.1, HE.out.2.2⟩
theorem rwo_is (kk : Bool) (w : World) (s : Value) (l : PL) (y : Int) (hlen : l.length ≤ 100000) (h : RowO kk w s l) :
    Calls Try.prog 35 #[s, .int .i64 y] w fun e w' => ∃ v, e = .returned v ∧ RowO kk w' v (without l y) ∧ (∀ k, v.ownBlock = some k → w.heap.size ≤ k) ∧ Below w.heap.size w w' := by
  obtain ⟨a, c, rfl, -, -⟩ := h.form
  exact rwo_ex kk w a _ c l y hlen h

end Go.Proofs.Ytjjhmfpdbjflmaa
