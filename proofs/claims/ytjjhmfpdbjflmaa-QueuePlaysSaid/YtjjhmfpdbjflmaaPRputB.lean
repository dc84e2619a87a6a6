/-
  put (stage 14).
-/
import Derived.Test.YtjjhmfpdbjflmaaPRput
namespace Go.Proofs.Ytjjhmfpdbjflmaa
open Go.RowKit
set_option linter.unusedVariables false

set_option maxRecDepth 100000 in
set_option maxHeartbeats 8000000 in
theorem rput_some (w : World) (b n c : Nat) (l : List Int) (x : Int) (hln : l.length = n) (hn5 : n ≤ 500000) (h : RowI w (.slice (some ⟨b, 0, none⟩) n c) l) :
    Calls Try.prog 59 #[.slice (some ⟨b, 0, none⟩) n c, .int .i64 x] w fun e w' => ∃ v, e = .returned v ∧ RowI w' v (putR l x) ∧ (∀ k, v.ownBlock = some k → k = b ∨ w.heap.size ≤ k) ∧ Below w.heap.size w w' := by
  obtain ⟨hnc, hcm, -⟩ := h.cap
  have HR := Lib.hid h
  have HL := Lib.hid hln
  have hbl := RowF.lt h b rfl
  clear h hln
  go_enter Try.func59, Try.ntmps59
  go_wp2_with fail
  go_loopg [5] n (fun gg s5 wr => ∃ (i : Nat), s5 = .int .i64 i ∧ i ≤ n ∧ n - i ≤ gg ∧ wr = w ∧ Hid (∀ j : Nat, j < i → ∀ y, l[j]? = some y → y < x))
  case atStart => exact ⟨0, rfl, Nat.zero_le _, by omega, rfl, Lib.hid (fun j hj => by omega)⟩
  case round =>
    obtain ⟨i, rfl, hi, hgg, rfl, HN⟩ := hrel
    have hic : i ≤ c := by omega
    by_cases hlt : i < n
    · have hltz : (i : Int) < (n : Int) := by omega
      obtain ⟨y, hy⟩ := get_int (l := l) (i := i) (by rw [HL.out]; exact hlt)
      obtain ⟨-, q0⟩ := HR.out.cell hy
      have HY := Lib.hid hy
      have HLT := Lib.hid (And.intro hlt (And.intro hi hgg))
      clear hy hgg
      by_cases hyx : y < x
      · have HYX := Lib.hid hyx
        go_wp2_with fail
        go_roundg (n - (i + 1))
        case measure => have := HLT.out; omega
        case rel => exact ⟨i + 1, by go_num, by have := HLT.out; omega, Nat.le_refl _, rfl, Lib.hid (fun j hj z hz => by
          by_cases e : j = i
          · subst e
            rw [HY.out] at hz
            cases hz
            exact HYX.out
          · exact HN.out j (by omega) z hz)⟩
      · by_cases hye : y = x
        · have hc : (y == x) = true := by simpa using hye
          have HYE := Lib.hid hye
          go_wp2_with fail
          go_ret
          refine ⟨_, rfl, ?_, fun k hk => .inl (Option.some.inj hk).symm, Below.refl _ _⟩
          rw [putR_has HN.out (by rw [← HYE.out]; exact HY.out)]
          exact HR.out
        · have hc : (y == x) = false := by simpa using hye
          have HMID : Hid (∀ z, l[i]? = some z → x < z) := Lib.hid (fun z hz => by rw [HY.out] at hz; cases hz; omega)
          have hci : ¬ c = i := by omega
          obtain ⟨a1, c1, W2, a2, c2, W4, a3, c3, W6, r1, r2, r3, q3, o3, b3⟩ := put_build HR.out hi hn5 x (off := i) (fun _ => rfl)
          have HE : Hid (RowI W6 (.slice a3 (n + 1) c3) (putR l x) ∧ (∀ k, Value.ownBlock (.slice a3 (n + 1) c3) = some k → wr.heap.size ≤ k) ∧ Below wr.heap.size wr W6) := Lib.hid ⟨by rw [putR_mid HN.out HMID.out]; exact q3, o3, b3⟩
          have R1 := Lib.hid r1
          have R2 := Lib.hid r2
          have R3 := Lib.hid r3
          clear r1 r2 r3 q3 o3 b3
          go_upto_region 7 with (first | (at_builtin; refine append_stepW rfl _ _ 35 rfl _ _ _ _ rfl rfl (R1.out _) ?_) | fail)
          go_upto_region 8 with (first | (at_builtin; refine append_stepW rfl _ _ 35 rfl _ _ _ _ rfl rfl (R2.out _) ?_) | fail)
          go_wp2_with (first | (at_builtin; refine append_stepW rfl _ _ 35 rfl _ _ _ _ rfl rfl (R3.out _) ?_) | fail)
          go_ret
          exact ⟨_, rfl, HE.out.1, fun k hk => .inr (HE.out.2.1 k hk), HE.out.2.2⟩
    · have hltz : ¬ (i : Int) < (n : Int) := by omega
      have hni : i = n := by omega
      have HMID : Hid (∀ z, l[i]? = some z → x < z) := Lib.hid (fun z hz => by have := (List.getElem?_eq_some_iff.1 hz).1; rw [HL.out] at this; omega)
      clear hgg
      by_cases hci : c = i
      · obtain ⟨a1, c1, W2, a2, c2, W4, a3, c3, W6, r1, r2, r3, q3, o3, b3⟩ := put_build HR.out hi hn5 x (off := 0) (fun e => absurd e hlt)
        subst hni
        subst hci
        simp only [Nat.sub_self] at r3
        have HE : Hid (RowI W6 (.slice a3 (c + 1) c3) (putR l x) ∧ (∀ k, Value.ownBlock (.slice a3 (c + 1) c3) = some k → wr.heap.size ≤ k) ∧ Below wr.heap.size wr W6) := Lib.hid ⟨by rw [putR_mid HN.out HMID.out]; exact q3, o3, b3⟩
        have R1 := Lib.hid r1
        have R2 := Lib.hid r2
        have R3 := Lib.hid r3
        clear r1 r2 r3 q3 o3 b3
        go_upto_region 7 with (first | (at_builtin; refine append_stepW rfl _ _ 35 rfl _ _ _ _ rfl rfl (R1.out _) ?_) | fail)
        go_upto_region 8 with (first | (at_builtin; refine append_stepW rfl _ _ 35 rfl _ _ _ _ rfl rfl (R2.out _) ?_) | fail)
        go_wp2_with (first | (at_builtin; refine append_stepW rfl _ _ 35 rfl _ _ _ _ rfl rfl (R3.out _) ?_) | fail)
        go_ret
        exact ⟨_, rfl, HE.out.1, fun k hk => .inr (HE.out.2.1 k hk), HE.out.2.2⟩
      · obtain ⟨a1, c1, W2, a2, c2, W4, a3, c3, W6, r1, r2, r3, q3, o3, b3⟩ := put_build HR.out hi hn5 x (off := i) (fun e => absurd e hlt)
        subst hni
        simp only [Nat.sub_self] at r3
        have HE : Hid (RowI W6 (.slice a3 (i + 1) c3) (putR l x) ∧ (∀ k, Value.ownBlock (.slice a3 (i + 1) c3) = some k → wr.heap.size ≤ k) ∧ Below wr.heap.size wr W6) := Lib.hid ⟨by rw [putR_mid HN.out HMID.out]; exact q3, o3, b3⟩
        have R1 := Lib.hid r1
        have R2 := Lib.hid r2
        have R3 := Lib.hid r3
        clear r1 r2 r3 q3 o3 b3
        go_upto_region 7 with (first | (at_builtin; refine append_stepW rfl _ _ 35 rfl _ _ _ _ rfl rfl (R1.out _) ?_) | fail)
        go_upto_region 8 with (first | (at_builtin; refine append_stepW rfl _ _ 35 rfl _ _ _ _ rfl rfl (R2.out _) ?_) | fail)
        go_wp2_with (first | (at_builtin; refine append_stepW rfl _ _ 35 rfl _ _ _ _ rfl rfl (R3.out _) ?_) | fail)
        go_ret
        exact ⟨_, rfl, HE.out.1, fun k hk => .inr (HE.out.2.1 k hk), HE.out.2.2⟩

theorem put_build0 (W : World) (x : Int) :
    ∃ a1 c1 W2 a2 c2 W4 a3 c3 W6, (∀ ty, (Builtin.append_ #[35, 35] ty #[.slice (some ⟨W.heap.size, 0, none⟩) 0 0, .slice none 0 0]).run Try.prog (W.alloc (.cells #[] 3)) = .ok (.slice a1 0 c1) W2) ∧
      (∀ ty, (Builtin.append_ #[35, 35] ty #[.slice a1 0 c1, .slice (some ⟨W2.heap.size, 0, none⟩) 1 1]).run Try.prog (W2.alloc (.cells #[.int .i64 x] 3)) = .ok (.slice a2 1 c2) W4) ∧
      (∀ ty, (Builtin.append_ #[35, 35] ty #[.slice a2 1 c2, .slice none 0 0]).run Try.prog W4 = .ok (.slice a3 1 c3) W6) ∧
      RowI W6 (.slice a3 1 c3) [x] ∧ (∀ k, Value.ownBlock (.slice a3 1 c3) = some k → W.heap.size ≤ k) ∧ Below W.heap.size W W6 := by
  have hb1 := Below.allocs W (.cells #[] 3)
  have h0 : RowI (W.alloc (.cells #[] 3)) (.slice (some ⟨W.heap.size, 0, none⟩) 0 0) [] := lit_rowI W [] 0 rfl (Nat.zero_le _)
  obtain ⟨a1, c1, W2, r1, q1, t1, o1⟩ := row_app h0 (show RowI (W.alloc (.cells #[] 3)) (.slice none 0 0) [] from RowF.nil _ _ _ _) (by simp)
  simp only [List.length_nil, Nat.zero_add, List.nil_append] at r1 q1 o1
  have hs1 : W.heap.size ≤ (W.alloc (.cells #[] 3)).heap.size := hb1.size
  have hb2 : Below W.heap.size W W2 := hb1.trans (t1.below (fun j hj => by have e : W.heap.size = j := Option.some.inj hj; omega) hs1)
  have ha3 := Below.allocs W2 (.cells #[.int .i64 x] 3)
  have h1 : RowI (W2.alloc (.cells #[.int .i64 x] 3)) (.slice (some ⟨W2.heap.size, 0, none⟩) 1 1) [x] := lit_rowI W2 [x] 1 rfl (by unfold maxLen; omega)
  obtain ⟨a2, c2, W4, r2, q2, t2, o2⟩ := row_app (RowF.below q1 ha3) h1 (by simp)
  simp only [List.length_nil, Nat.zero_add, List.nil_append] at r2 q2 o2
  have hown1 : ∀ j, Value.ownBlock (.slice a1 0 c1) = some j → W.heap.size ≤ j := fun j hj => by
    rcases o1 j hj with e | e
    · have e : W.heap.size = j := Option.some.inj e
      omega
    · omega
  have hs2 := hb2.size
  have hb3 : Below W.heap.size W (W2.alloc (.cells #[.int .i64 x] 3)) := below_tr hb2 ha3
  have hb4 : Below W.heap.size W W4 := hb3.trans (t2.below (fun j hj => hown1 j hj) hb3.size)
  have hown2 : ∀ j, Value.ownBlock (.slice a2 1 c2) = some j → W.heap.size ≤ j := fun j hj => by
    rcases o2 j hj with e | e
    · exact hown1 j e
    · have := hb3.size; omega
  obtain ⟨a3, c3, W6, r3, q3, t3, o3⟩ := row_app q2 (show RowI W4 (.slice none 0 0) [] from RowF.nil _ _ _ _) (by simp)
  simp only [List.length_singleton, Nat.add_zero, List.append_nil] at r3 q3 o3
  refine ⟨a1, c1, W2, a2, c2, W4, a3, c3, W6, r1, r2, r3, q3, fun k hk => ?_, hb4.trans (t3.below (fun j hj => hown2 j hj) hb4.size)⟩
  rcases o3 k hk with e | e
  · exact hown2 k e
  · have := hb4.size; omega

set_option maxRecDepth 100000 in
set_option maxHeartbeats 8000000 in
theorem rput_nil (w : World) (x : Int) :
    Calls Try.prog 59 #[.slice none 0 0, .int .i64 x] w fun e w' => ∃ v, e = .returned v ∧ RowI w' v [x] ∧ (∀ k, v.ownBlock = some k → w.heap.size ≤ k) ∧ Below w.heap.size w w' := by
  obtain ⟨a1, c1, W2, a2, c2, W4, a3, c3, W6, r1, r2, r3, q3, o3, b3⟩ := put_build0 w x
  have HE := Lib.hid (And.intro q3 (And.intro o3 b3))
  have R1 := Lib.hid r1
  have R2 := Lib.hid r2
  have R3 := Lib.hid r3
  clear r1 r2 r3 q3 o3 b3
  go_enter Try.func59, Try.ntmps59
  go_wp2_with fail
  go_loopg [5] 0 (fun gg s5 wr => s5 = .int .i64 0 ∧ wr = w)
  case atStart => exact ⟨rfl, rfl⟩
  case round =>
    obtain ⟨rfl, rfl⟩ := hrel
    go_upto_region 7 with (first | (at_builtin; refine append_stepW rfl _ _ 35 rfl _ _ _ _ rfl rfl (R1.out _) ?_) | fail)
    go_upto_region 8 with (first | (at_builtin; refine append_stepW rfl _ _ 35 rfl _ _ _ _ rfl rfl (R2.out _) ?_) | fail)
    go_wp2_with (first | (at_builtin; refine append_stepW rfl _ _ 35 rfl _ _ _ _ rfl rfl (R3.out _) ?_) | fail)
    go_ret
    exact ⟨_, rfl, HE.out.1, HE.out.2.1, HE.out.2.2⟩

theorem rput_is (w : World) (v : Value) (l : List Int) (x : Int) (hn5 : l.length ≤ 500000) (h : RowI w v l) :
    Calls Try.prog 59 #[v, .int .i64 x] w fun e w' => ∃ v', e = .returned v' ∧ RowI w' v' (putR l x) ∧ (∀ k, v'.ownBlock = some k → v.ownBlock = some k ∨ w.heap.size ≤ k) ∧ Below w.heap.size w w' := by
  rcases h.own.2 with ⟨e, -⟩ | ⟨g, c9, cur, e, -⟩
  · obtain ⟨a, c, e2, -, -⟩ := h.form
    rw [e] at e2
    simp only [Value.slice.injEq] at e2
    have hl : l = [] := List.eq_nil_of_length_eq_zero e2.2.1.symm
    subst hl
    subst e
    refine (rput_nil w x).mono ?_
    rintro e w' ⟨v', rfl, h1, h2, h3⟩
    exact ⟨v', rfl, h1, fun k hk => .inr (h2 k hk), h3⟩
  · subst e
    refine (rput_some w g _ c9 l x rfl hn5 h).mono ?_
    rintro e w' ⟨v', rfl, h1, h2, h3⟩
    exact ⟨v', rfl, h1, fun k hk => (h2 k hk).imp (fun e => by rw [e]; rfl) id, h3⟩

end Go.Proofs.Ytjjhmfpdbjflmaa
