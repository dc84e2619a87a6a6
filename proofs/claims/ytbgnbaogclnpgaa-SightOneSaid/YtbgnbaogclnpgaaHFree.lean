/-
  The free slots: package container/heap at them (stage 11).
-/
import Derived.Test.YtbgnbaogclnpgaaHMem
import Derived.Test.YtbgnbaogclnpgaaHOrd
namespace Go.Proofs.Ytbgnbaogclnpgaa
open Go.RowKit
set_option linter.unusedVariables false

/-- The free slots of the heap at block h: n of them, the j-th is fr j. -/
structure FrS (W : World) (h : Nat) (s m f : Value) (n : Nat) (fr : Nat → Nat) : Prop where
  lit : Lit W h 75 [s, f, m]
  row : RowF 3 1 W f n (numR fun j => (fr j : Int))
  ne : ∀ k, f.ownBlock = some k → k ≠ h

def frI (h : Nat) : Value := .iface 127 (.pointer (some ⟨h, 1, none⟩))

section
variable {W W' : World} {h : Nat} {s m f : Value} {n : Nat} {fr : Nat → Nat}
theorem FrS.below (H : FrS W h s m f n fr) (hb : Below W.heap.size W W') : FrS W' h s m f n fr := ⟨H.lit.below hb, H.row.below hb, H.ne⟩

/-- Where they lie. -/
theorem FrS.at (H : FrS W h s m f n fr) (hn : 0 < n) : ∃ b c, f = .slice (some ⟨b, 0, none⟩) n c ∧ b ≠ h ∧ n ≤ c ∧ c ≤ maxLen ∧ b < W.heap.size ∧ h < W.heap.size ∧ W.cell? ⟨h, 1, none⟩ = some (.slice (some ⟨b, 0, none⟩) n c) ∧ W.frozen? ⟨h, 1, none⟩ = false ∧ (∀ i, i < n → W.cell? ⟨b, i, none⟩ = some (.int .i64 (fr i : Int))) ∧ ∀ o, W.frozen? ⟨b, o, none⟩ = false := by
  obtain ⟨b, c, h1, h2, h3, h4, h5, h6⟩ := H.row.at hn
  subst h1
  exact ⟨b, c, rfl, H.ne b rfl, h2, h3, h4, H.lit.lt, H.lit.cell rfl, H.lit.fz 1, fun i hi => by have := h5 i hi 0 _ rfl; rwa [Nat.mul_one, Nat.add_zero] at this, h6⟩
end

set_option maxRecDepth 100000 in
set_option maxHeartbeats 2000000 in
theorem less_is (w : World) (b c n : Nat) (fr : Nat → Nat) (i j : Nat) (hi : i < n) (hj : j < n) (hc : n ≤ 100000) (hat : ∀ i, i < n → w.cell? ⟨b, i, none⟩ = some (.int .i64 (fr i : Int))) (z : Bool) (hz : decide (fr i < fr j) = z) :
    Calls Try.prog 91 #[.slice (some ⟨b, 0, none⟩) n c, .int .i64 i, .int .i64 j] w fun e w' => e = .returned (.bool z) ∧ Below w.heap.size w w' := by
  have hB := Below.refl w.heap.size w
  have c1 := hat i hi
  have c2 := hat j hj
  have hii : (i : Int) < n := by omega
  have hjj : (j : Int) < n := by omega
  have h0 : (0 : Int) ≤ i := by omega
  have h1 : (0 : Int) ≤ j := by omega
  have hz' : decide ((fr i : Int) < (fr j : Int)) = z := by rw [← hz]; congr 1; exact propext (by omega)
  clear hat
  go_enter Try.func91, Try.ntmps91
  go_wp2_with fail
  go_quiet (fail)
  go_wp2_with fail
  go_ret
  exact ⟨rfl, drewN_below _ _⟩



set_option maxRecDepth 100000 in
/-- A method of the free slots, asked of a pointer to them, that takes them by value. -/
theorem meth_val {name : String} {k : Nat} (hm : (Try.t127.methods.find? (·.name == name)).map (fun m => (m.path, m.func)) = some (#[], some (k, false))) (w : World) (h : Nat) (v : Value) (hv : w.cell? ⟨h, 1, none⟩ = some v) (hs : ∃ a n c, v = .slice a n c) :
    (method 254 127 (.pointer (some ⟨h, 1, none⟩)) name).run Try.prog w = .ok (k, v) w := by
  obtain ⟨m, h1, h2⟩ : ∃ m, Try.t127.methods.find? (·.name == name) = some m ∧ (m.path, m.func) = (#[], some (k, false)) := by
    cases hx : Try.t127.methods.find? (·.name == name) with
    | none => rw [hx] at hm; cases hm
    | some m => rw [hx] at hm; exact ⟨m, rfl, Option.some.inj hm⟩
  simp only [Prod.mk.injEq] at h2
  obtain ⟨a, n, c, rfl⟩ := hs
  unfold method
  simp [go_sem]
  rw [h1]
  have hk : ∀ (a : Addr) (u1 u2 : ByteArray) (w : World), (Builtin.ssaWrapNilChk_ #[127] 127 #[.pointer (some a), .string u1, .string u2]).run Try.prog w = .ok (.pointer (some a)) w := fun a u1 u2 w => rfl
  simp [go_sem, h2.1, h2.2, follow, receiverAt, Place.get, strVal, hk]
  rw [hv]
  rfl

set_option maxRecDepth 100000 in
theorem meth_ptr {name : String} {k : Nat} (hm : (Try.t127.methods.find? (·.name == name)).map (fun m => (m.path, m.func)) = some (#[], some (k, true))) (w : World) (h : Nat) :
    (method 254 127 (.pointer (some ⟨h, 1, none⟩)) name).run Try.prog w = .ok (k, .pointer (some ⟨h, 1, none⟩)) w := by
  obtain ⟨m, h1, h2⟩ : ∃ m, Try.t127.methods.find? (·.name == name) = some m ∧ (m.path, m.func) = (#[], some (k, true)) := by
    cases hx : Try.t127.methods.find? (·.name == name) with
    | none => rw [hx] at hm; cases hm
    | some m => rw [hx] at hm; exact ⟨m, rfl, Option.some.inj hm⟩
  simp only [Prod.mk.injEq] at h2
  unfold method
  simp [go_sem]
  rw [h1]
  simp [go_sem, h2.1, h2.2, follow, receiverAt, Place.get]

theorem m_less (w : World) (h : Nat) (v : Value) (hv : w.cell? ⟨h, 1, none⟩ = some v) (hs : ∃ a n c, v = .slice a n c) : (method 254 127 (.pointer (some ⟨h, 1, none⟩)) "Less").run Try.prog w = .ok (91, v) w := meth_val (by kernel_rfl) w h v hv hs
theorem m_len (w : World) (h : Nat) (v : Value) (hv : w.cell? ⟨h, 1, none⟩ = some v) (hs : ∃ a n c, v = .slice a n c) : (method 254 127 (.pointer (some ⟨h, 1, none⟩)) "Len").run Try.prog w = .ok (90, v) w := meth_val (by kernel_rfl) w h v hv hs
theorem m_swap (w : World) (h : Nat) (v : Value) (hv : w.cell? ⟨h, 1, none⟩ = some v) (hs : ∃ a n c, v = .slice a n c) : (method 254 127 (.pointer (some ⟨h, 1, none⟩)) "Swap").run Try.prog w = .ok (92, v) w := meth_val (by kernel_rfl) w h v hv hs
theorem m_push (w : World) (h : Nat) : (method 254 127 (.pointer (some ⟨h, 1, none⟩)) "Push").run Try.prog w = .ok (95, .pointer (some ⟨h, 1, none⟩)) w := meth_ptr (by kernel_rfl) w h
theorem m_pop (w : World) (h : Nat) : (method 254 127 (.pointer (some ⟨h, 1, none⟩)) "Pop").run Try.prog w = .ok (94, .pointer (some ⟨h, 1, none⟩)) w := meth_ptr (by kernel_rfl) w h


theorem FrS.setAt {W : World} {h n b c : Nat} {s m : Value} {fr : Nat → Nat} (H : FrS W h s m (.slice (some ⟨b, 0, none⟩) n c) n fr) {i : Nat} (hi : i < n) (x : Nat) :
    FrS (W.setCell ⟨b, i, none⟩ (.int .i64 (x : Int))) h s m (.slice (some ⟨b, 0, none⟩) n c) n (fun k => if k = i then x else fr k) := by
  have hb := H.ne b rfl
  refine ⟨H.lit.stay ((Touch.setCell W (F := fun k => k = b) rfl i _).stay (G := fun k => k = h) (fun k hk e => hb (by rw [← e, hk]))) rfl, ((H.row.set (b := b) (c := 0) rfl hi (by omega) (by omega) (.int .i64 (x : Int))).congr fun k hk => ?_), H.ne⟩
  unfold updR numR
  by_cases e : k = i
  · simp only [e, if_true]; rfl
  · simp only [if_neg e]

theorem FrS.swap {W : World} {h n b c : Nat} {s m : Value} {fr : Nat → Nat} (H : FrS W h s m (.slice (some ⟨b, 0, none⟩) n c) n fr) {i j : Nat} (hi : i < n) (hj : j < n) :
    FrS ((W.setCell ⟨b, i, none⟩ (.int .i64 (fr j : Int))).setCell ⟨b, j, none⟩ (.int .i64 (fr i : Int))).drew h s m (.slice (some ⟨b, 0, none⟩) n c) n (swp fr i j) ∧ Touch (fun k => (Value.slice (some ⟨b, 0, none⟩) n c).ownBlock = some k) W ((W.setCell ⟨b, i, none⟩ (.int .i64 (fr j : Int))).setCell ⟨b, j, none⟩ (.int .i64 (fr i : Int))).drew := by
  have h1 := (H.setAt hi (fr j)).setAt hj (fr i)
  have h2 := (h1.below (below_drw _))
  refine ⟨⟨h2.lit, h2.row.congr fun k hk => ?_, h2.ne⟩, ?_⟩
  · unfold numR swp
    by_cases e1 : k = j
    · by_cases e2 : k = i
      · simp only [e1, if_true]
        rw [← e1, e2]
        simp
      · subst e1
        simp only [if_neg e2, if_true]
    · simp only [if_neg e1]
  · have t1 := Touch.setCell W (F := fun k => (Value.slice (some ⟨b, 0, none⟩) n c).ownBlock = some k) (g := b) rfl i (.int .i64 (fr j : Int))
    have t2 := Touch.setCell (W.setCell ⟨b, i, none⟩ (.int .i64 (fr j : Int))) (F := fun k => (Value.slice (some ⟨b, 0, none⟩) n c).ownBlock = some k) (g := b) rfl j (.int .i64 (fr i : Int))
    exact (t1.trans t2 (fun _ _ h => h)).trans (Touch.of_below (below_drw _)) (fun _ _ h => h)

set_option maxRecDepth 100000 in
set_option maxHeartbeats 2000000 in
theorem swap_is (w : World) (h : Nat) (s m f : Value) (n : Nat) (fr : Nat → Nat) (i j : Nat) (hi : i < n) (hj : j < n) (hc : n ≤ 100000) (H : FrS w h s m f n fr) :
    Calls Try.prog 92 #[f, .int .i64 i, .int .i64 j] w fun e w' => e = .returned (.tuple #[]) ∧ FrS w' h s m f n (swp fr i j) ∧ Touch (fun k => f.ownBlock = some k) w w' := by
  obtain ⟨b, c, rfl, hbh, hnc, hcm, hbl, hhl, c0, f0, hat, hfz⟩ := H.at (by omega)
  have c1 := hat i hi
  have c2 := hat j hj
  have f1 := hfz i
  have f2 := hfz j
  have hii : (i : Int) < n := by omega
  have hjj : (j : Int) < n := by omega
  have h0 : (0 : Int) ≤ i := by omega
  have h1 : (0 : Int) ≤ j := by omega
  have HS := Lib.hid H
  clear hat hfz H c0 f0
  go_enter Try.func92, Try.ntmps92
  by_cases hij : i = j
  · subst hij
    go_wp2_with fail
    go_region
    go_end0
    exact ⟨rfl, HS.out.swap hi hj⟩
  · have hne : ¬ j = i := fun e => hij e.symm
    go_wp2_with fail
    go_region
    go_end0
    exact ⟨rfl, HS.out.swap hi hj⟩

theorem par_eq {j : Nat} (h : 0 < j) : (((j : Int) - 1).tdiv 2) = (((j - 1) / 2 : Nat) : Int) := by
  rw [show (j : Int) - 1 = ((j - 1 : Nat) : Int) by omega]
  exact (Int.ofNat_tdiv (j - 1) 2).symm

set_option maxRecDepth 100000 in
set_option maxHeartbeats 4000000 in
theorem up_is (w : World) (h : Nat) (s m f : Value) (n : Nat) (fr : Nat → Nat) (j : Nat) (hj : j < n) (hc : n ≤ 100000) (H : FrS w h s m f n fr) (hU : UpO fr n j) :
    Calls Try.prog 70 #[frI h, .int .i64 j] w fun e w' => ∃ fr', e = .returned (.tuple #[]) ∧ FrS w' h s m f n fr' ∧ HeapO fr' n ∧ Same fr fr' n ∧ Touch (fun k => f.ownBlock = some k) w w' := by
  obtain ⟨j0, hj0⟩ : ∃ j0, j0 = j := ⟨_, rfl⟩
  obtain ⟨fr0, hfr0⟩ : ∃ fr0, fr0 = fr := ⟨_, rfl⟩
  have H0 : Hid (FrS w h s m f n fr0) := Lib.hid (by rw [hfr0]; exact H)
  have HU0 : Hid (UpO fr0 n j0) := Lib.hid (by rw [hfr0, hj0]; exact hU)
  have HS0 : Hid (Same fr fr0 n) := Lib.hid (by rw [hfr0]; exact Same.refl _ _)
  have HT0 : Hid (Touch (fun k => f.ownBlock = some k) w w) := Lib.hid (Touch.refl _ _)
  have hjn : j0 < n := by omega
  obtain ⟨b, c, rfl, hbh, -, -, -, -, -, -, -, -⟩ := H.at (by omega)
  rw [← hj0]
  clear H hU hj0 hfr0 hj hbh
  unfold frI
  go_enter Try.func70, Try.ntmps70
  go_wp2_with fail
  go_loopg [1] j0 (fun gg sx wr => ∃ (k : Nat) (fk : Nat → Nat), sx = .int .i64 k ∧ k < n ∧ k ≤ gg ∧ Hid (FrS wr h s m (.slice (some ⟨b, 0, none⟩) n c) n fk) ∧ Hid (UpO fk n k) ∧ Hid (Same fr fk n) ∧ Hid (Touch (fun k => (Value.slice (some ⟨b, 0, none⟩) n c).ownBlock = some k) w wr))
  case atStart => exact ⟨j0, fr0, rfl, hjn, Nat.le_refl _, H0, HU0, HS0, HT0⟩
  case round =>
    obtain ⟨k, fk, rfl, hkn, hgg, HK, HU, HS, HT⟩ := hrel
    clear H0 HU0 HS0 HT0 hjn
    obtain ⟨b', c', e, hbh, hnc, hcm, hbl, hhl, c0, f0, hat, hfz⟩ := HK.out.at (by omega)
    cases e
    have hm1 := m_less wr h (.slice (some ⟨b, 0, none⟩) n c) c0 ⟨_, _, _, rfl⟩
    have HW1 : Hid (wrap64 ((k : Int) - 1) = (k : Int) - 1) := Lib.hid (wrOk (by omega))
    by_cases hk0 : k = 0
    · subst hk0
      have HEND := Lib.hid (UpO.done HU.out (.inl rfl))
      clear hat hfz hcm hnc hbl hhl f0 hkn hc c0 hbh hm1 hgg HW1
      go_wp2_with fail
      go_end0
      exact ⟨fk, rfl, HK.out, HEND.out, HS.out, HT.out⟩
    · obtain ⟨i, hi⟩ : ∃ i, (k - 1) / 2 = i := ⟨_, rfl⟩
      have hpe : (((k : Int) - 1).tdiv 2) = (i : Int) := by rw [par_eq (by omega), hi]
      have hne : ((i : Int) == (k : Int)) = false := by simp; omega
      have hik : i < n := by omega
      have HWI : Hid (wrap64 (i : Int) = i) := Lib.hid (wrOk (by omega))
      obtain ⟨z, hz⟩ : ∃ z, decide (fk k < fk i) = z := ⟨_, rfl⟩
      have hcon := less_is wr b c n fk k i hkn hik hc hat z hz
      have hw1 := HW1.out
      have hwi := HWI.out
      have HI := Lib.hid hi
      have HZ := Lib.hid hz
      have HK0 := Lib.hid hk0
      have HKN := Lib.hid hkn
      have HC := Lib.hid hc
      have HIK := Lib.hid hik
      have HG := Lib.hid hgg
      clear hat hfz hi hz hgg hcm hnc hbl hhl f0 hk0 hkn hc c0 hbh hik HW1 HWI
      go_wp2_with fail
      refine hcon.mono ?_
      rintro e w1 ⟨rfl, hb1⟩
      have HB1 := Lib.hid hb1
      clear hb1 hcon hm1
      cases z with
      | false =>
        have HEND := Lib.hid (UpO.done HU.out (.inr (by rw [HI.out]; exact of_decide_eq_false HZ.out)))
        go_wp2_with fail
        go_end0
        exact ⟨fk, rfl, HK.out.below HB1.out, HEND.out, HS.out, HT.out.trans (Touch.of_below HB1.out) (fun _ _ h => h)⟩
      | true =>
        have hlt := of_decide_eq_true HZ.out
        have HUN := Lib.hid (HU.out.step HKN.out (by have := HK0.out; omega) (by rw [HI.out]; exact hlt))
        have HK1 := Lib.hid (HK.out.below HB1.out)
        have c0 := HK1.out.lit.cell (o := 1) rfl
        have hm2 := m_swap w1 h (.slice (some ⟨b, 0, none⟩) n c) c0 ⟨_, _, _, rfl⟩
        have hcon := swap_is w1 h s m (.slice (some ⟨b, 0, none⟩) n c) n fk i k HIK.out HKN.out HC.out HK1.out
        clear hlt c0
        go_wp2_with fail
        refine hcon.mono ?_
        rintro e w2 ⟨rfl, hk2, ht2⟩
        have HK2 := Lib.hid hk2
        have HT2 := Lib.hid (((HT.out.trans (Touch.of_below HB1.out) (fun _ _ h => h)).trans ht2 (fun _ _ h => h) : Touch _ w w2))
        clear hk2 ht2 hcon hm2
        go_wp2_with fail
        have hik : i + 1 ≤ k := by have := HI.out; have := HK0.out; omega
        go_roundg i
        case measure => have := HG.out; omega
        case rel => exact ⟨i, _, rfl, HIK.out, Nat.le_refl _, HK2, Lib.hid (by have := HUN.out; rw [HI.out] at this; exact this), Lib.hid (HS.out.trans (Same.swp fk HIK.out HKN.out)), HT2⟩
end Go.Proofs.Ytbgnbaogclnpgaa
