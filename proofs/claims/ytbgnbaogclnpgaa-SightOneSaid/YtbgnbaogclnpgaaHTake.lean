/-
  Pop of the free slots, container/heap.Pop, take (stage 11).
-/
import Derived.Test.YtbgnbaogclnpgaaHPop
namespace Go.Proofs.Ytbgnbaogclnpgaa
open Go.RowKit
set_option linter.unusedVariables false

theorem Same.more {fr fr' : Nat → Nat} {n : Nat} (h : Same fr fr' n) (ha : ∀ k, n ≤ k → fr' k = fr k) : Same fr fr' (n + 1) := by
  obtain ⟨p, q, h1, h2⟩ := h
  refine ⟨fun k => if k < n then p k else k, fun k => if k < n then q k else k, fun k hk => ?_, fun k hk => ?_⟩
  · by_cases hkn : k < n
    · obtain ⟨a1, a2, a3, a4⟩ := h1 k hkn
      simp only [if_pos hkn, if_pos a1, if_pos a2]
      exact ⟨by omega, by omega, a3, a4⟩
    · simp only [if_neg hkn]
      exact ⟨hk, hk, trivial, trivial⟩
  · by_cases hkn : k < n
    · simp only [if_pos hkn]; exact h2 k hkn
    · simp only [if_neg hkn]; exact ha k (by omega)

theorem row_cut {e : TypeId} {m : Nat} {W : World} {a : Addr} {n c : Nat} {f : Nat → List Value} (h : RowF e m W (.slice (some a) n c) n f) {k : Nat} (hk : k ≤ n) : RowF e m W (.slice (some a) k c) k f := by
  obtain ⟨⟨xs, h1, h2⟩, h3⟩ := h
  have hkm : k * m ≤ n * m := Nat.mul_le_mul_right _ hk
  refine ⟨⟨xs.take (k * m), ⟨by rw [List.length_take, h1.1]; omega, ?_⟩, fun j hj c v hv => ?_⟩, fun j hj => h3 j (by omega)⟩
  · rcases h1.2 with ⟨h0, _⟩ | ⟨b, cap, cur, h0, hb, hg, hnc, hcm, hcs, hx⟩
    · cases h0
    · cases h0
      refine .inr ⟨b, c, cur, rfl, hb, hg, by omega, hcm, hcs, ?_⟩
      rw [← hx, List.take_take, Nat.min_eq_left hkm]
  · have hc : c < m := by have := (List.getElem?_eq_some_iff.1 hv).1; rwa [h3 j (by omega)] at this
    rw [List.getElem?_take_of_lt]
    · exact h2 j (by omega) c v hv
    · calc j * m + c < j * m + m := by omega
        _ = (j + 1) * m := by rw [Nat.add_mul, Nat.one_mul]
        _ ≤ k * m := Nat.mul_le_mul_right _ hj

set_option maxRecDepth 100000 in
set_option maxHeartbeats 4000000 in
theorem fpop_is (w : World) (h : Nat) (s m f : Value) (n : Nat) (fr : Nat → Nat) (hn : n ≤ 100000) (H : FrS w h s m f (n + 1) fr) :
    Calls Try.prog 94 #[.pointer (some ⟨h, 1, none⟩)] w fun e w' => e = .returned (.iface 3 (.int .i64 (fr n : Int))) ∧ ∃ f', FrS w' h s m f' n fr ∧ Touch (fun k => k = h) w w' ∧ f'.ownBlock = f.ownBlock := by
  obtain ⟨b, c, rfl, hbh, hnc, hcm, hbl, hhl, c0, f0, hat, hfz⟩ := H.at (by omega)
  have cn := hat n (by omega)
  have HW : Hid (wrap64 (n : Int) = n) := Lib.hid (wrOk (by omega))
  have HEND : Hid (FrS (w.setCell ⟨h, 1, none⟩ (.slice (some ⟨b, 0, none⟩) n c)) h s m (.slice (some ⟨b, 0, none⟩) n c) n fr) := Lib.hid (by
    have hset := Touch.setCell w (F := fun k => k = h) rfl 1 (.slice (some ⟨b, 0, none⟩) n c)
    exact ⟨H.lit.set 1 _, (row_cut H.row (Nat.le_succ n)).stay (hset.stay (G := fun k => k ≠ h) (fun k hk e => hk e)) (fun k hk => by have : b = k := Option.some.inj hk; omega), fun k hk => by have : b = k := Option.some.inj hk; omega⟩)
  have HT := Lib.hid (Touch.setCell w (F := fun k => k = h) rfl 1 (.slice (some ⟨b, 0, none⟩) n c))
  have hlt : (n : Int) < ((n + 1 : Nat) : Int) := by omega
  have hle0 : (0 : Int) ≤ n := by omega
  have hnc' : (n : Int) ≤ c := by omega
  have hlt2 : (n : Int) < (n : Int) + 1 := by omega
  have hw := HW.out
  clear H hat hfz hbh hbl hhl hnc hcm hn HW
  go_enter Try.func94, Try.ntmps94
  go_wp2_with fail
  go_ret
  exact ⟨rfl, _, HEND.out, HT.out, rfl⟩

theorem swp_down {fr : Nat → Nat} {n : Nat} (h : HeapO fr (n + 1)) : DownO (swp fr 0 n) n 0 := by
  refine ⟨fun k k0 kn kne => ?_, fun k k0 kn ke i0 => by omega⟩
  unfold swp
  rw [if_neg kne, if_neg (show ¬ (k - 1) / 2 = n by omega), if_neg (show ¬ k = 0 by omega), if_neg (show ¬ k = n by omega)]
  exact h k k0 (by omega)

set_option maxRecDepth 100000 in
set_option maxHeartbeats 4000000 in
theorem hpop_is (w : World) (h : Nat) (s m f : Value) (n : Nat) (fr : Nat → Nat) (x : Nat) (hx : fr 0 = x) (hn : n < 100000) (hh : HeapO fr (n + 1)) (H : FrS w h s m f (n + 1) fr) :
    Calls Try.prog 66 #[frI h] w fun e w' => e = .returned (.iface 3 (.int .i64 (x : Int))) ∧ ∃ f' fr', FrS w' h s m f' n fr' ∧ HeapO fr' n ∧ Same fr fr' (n + 1) ∧ fr' n = x ∧
      Touch (fun k => k = h ∨ f.ownBlock = some k) w w' ∧ f'.ownBlock = f.ownBlock := by
  obtain ⟨a, c, rfl, _, _⟩ := H.row.form
  have c0 := H.lit.cell (o := 1) rfl
  have hm1 := m_len w h (.slice a (n + 1) c) c0 ⟨_, _, _, rfl⟩
  have hcon := flen_is w a (n + 1) c
  have HK := Lib.hid H
  have HN := Lib.hid hn
  have HH := Lib.hid hh
  have HX := Lib.hid hx
  have hw1 : wrap64 (n : Int) = (n : Int) := wrOk (by omega)
  clear H hn hh hx c0
  unfold frI
  go_enter Try.func66, Try.ntmps66
  go_wp2_with fail
  refine hcon.mono ?_
  rintro e w1 ⟨rfl, rfl⟩
  clear hcon hm1
  have c0 := HK.out.lit.cell (o := 1) rfl
  have hm2 := m_swap w1 h (.slice a (n + 1) c) c0 ⟨_, _, _, rfl⟩
  have hcon := swap_is w1 h s m (.slice a (n + 1) c) (n + 1) fr 0 n (Nat.succ_pos n) (Nat.lt_succ_self n) HN.out HK.out
  rw [show ((0 : Nat) : Int) = 0 from rfl] at hcon
  clear c0
  go_wp2_with fail
  refine hcon.mono ?_
  rintro e w2 ⟨rfl, hk2, ht2⟩
  have HK2 := Lib.hid hk2
  have HT2 := Lib.hid ht2
  have hcon2 := down_is w2 h s m (.slice a (n + 1) c) (n + 1) n _ (Nat.le_succ n) (Nat.succ_pos n) HN.out hk2 (swp_down HH.out)
  unfold frI at hcon2
  clear hk2 ht2 hcon hm2
  go_wp2_with fail
  refine hcon2.mono ?_
  rintro e w3 ⟨⟨z, rfl⟩, fr3, hd3, hh3⟩
  have HD3 := Lib.hid hd3
  have HH3 := Lib.hid hh3
  have hm3 := m_pop w3 h
  have hcon3 := fpop_is w3 h s m (.slice a (n + 1) c) n fr3 (by have := HN.out; clear hw1; omega) hd3.frs
  have e0 : fr3 n = x := by rw [hd3.above n (Nat.le_refl n)]; unfold swp; rw [← HX.out]; by_cases e : n = 0 <;> simp [e]
  rw [e0] at hcon3
  have HE0 := Lib.hid e0
  clear hd3 hh3 hcon2 e0
  go_wp2_with fail
  refine hcon3.mono ?_
  rintro e w4 ⟨rfl, f4, hk4, ht4, ho4⟩
  have HK4 := Lib.hid hk4
  have HT4 := Lib.hid ht4
  have HO4 := Lib.hid ho4
  clear hk4 ht4 ho4 hcon3 hm3 hw1
  go_wp2_with fail
  go_ret
  refine ⟨rfl, f4, fr3, HK4.out, HH3.out, ?_, HE0.out, ?_, HO4.out⟩
  · exact (Same.swp fr (Nat.succ_pos n) (Nat.lt_succ_self n)).trans (HD3.out.same.more HD3.out.above)
  · exact ((HT2.out.mono (fun k hk => .inr hk)).trans HD3.out.touch (fun k _ hk => .inr hk)).trans HT4.out (fun k _ hk => .inl hk)

set_option maxRecDepth 100000 in
set_option maxHeartbeats 4000000 in
/-- The least slot that is free. -/
theorem take_is (w : World) (h : Nat) (s m f : Value) (n : Nat) (fr : Nat → Nat) (x : Nat) (hx : fr 0 = x) (hn : n < 100000) (hh : HeapO fr (n + 1)) (H : FrS w h s m f (n + 1) fr) :
    Calls Try.prog 60 #[.pointer (some ⟨h, 1, none⟩)] w fun e w' => e = .returned (.tuple #[.int .i64 (x : Int), .bool true]) ∧ ∃ f' fr', FrS w' h s m f' n fr' ∧ HeapO fr' n ∧ Same fr fr' (n + 1) ∧ fr' n = x ∧
      Touch (fun k => k = h ∨ f.ownBlock = some k) w w' ∧ f'.ownBlock = f.ownBlock := by
  have hcon := hpop_is w h s m f n fr x hx hn hh H
  obtain ⟨a, c, rfl, _, _⟩ := H.row.form
  have c0 := H.lit.cell (o := 1) rfl
  have hne : (((n + 1 : Nat) : Int) == 0) = false := by simp; omega
  have hne2 : ¬ ((n : Int) + 1 = 0) := by omega
  have hta : ∀ w : World, (Instr.typeAssert (.iface 3 (.int .i64 (x : Int))) 20 3 false).run Try.prog w = .ok (.int .i64 (x : Int)) w := fun w => by kernel_rfl
  unfold frI at hcon
  clear H hn hh hx
  go_enter Try.func60, Try.ntmps60
  go_wp2_with fail
  refine hcon.mono ?_
  rintro e w1 ⟨rfl, hr⟩
  have HR := Lib.hid hr
  clear hr hcon c0
  go_wp2_with fail
  go_ret2
  exact ⟨rfl, HR.out⟩

set_option maxRecDepth 100000 in
theorem take_no (w : World) (h : Nat) (s m f : Value) (fr : Nat → Nat) (H : FrS w h s m f 0 fr) :
    Calls Try.prog 60 #[.pointer (some ⟨h, 1, none⟩)] w fun e w' => e = .returned (.tuple #[.int .i64 0, .bool false]) ∧ w' = w := by
  obtain ⟨a, c, rfl, _, _⟩ := H.row.form
  have c0 := H.lit.cell (o := 1) rfl
  clear H
  go_enter Try.func60, Try.ntmps60
  go_wp2_with fail
  go_ret2
  exact ⟨rfl, rfl⟩

end Go.Proofs.Ytbgnbaogclnpgaa
