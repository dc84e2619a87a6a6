/-
  Lists of bytes (types of columns) in memory, and what package slices finds among them (stage 8).
-/
import Derived.Test.YtkipnkbmpgjcoaaEBase
import Derived.Deep.LoopGhost
namespace Go.Proofs.Ytkipnkbmpgjcoaa
open Go.RowKit

/-- The numbers l lie in block b from cell o on, one behind the other. -/
def LstU (W : World) (b o : Nat) (l : List Int) : Prop := b < W.heap.size ∧ ∀ (i : Nat) x, l[i]? = some x → W.cell? ⟨b, o + i, none⟩ = some (.int .u8 x)

theorem LstU.below {W W' : World} {b o : Nat} {l : List Int} (h : LstU W b o l) (hb : Below W.heap.size W W') : LstU W' b o l :=
  ⟨Nat.lt_of_lt_of_le h.1 hb.size, fun i x hx => by rw [hb.cell h.1]; exact h.2 i x hx⟩

theorem getI {l : List Int} {i : Nat} (hi : i < l.length) : ∃ x, l[i]? = some x := ⟨l[i], by simp [hi]⟩

/-- What a closure answers for a number, in whatever world to come. -/
structure PredU (W : World) (f : FuncId) (cap : Array Value) (p : Int → Bool) : Prop where
  enter : ∀ args w, (callFunc f args).run Try.prog w = .ok (.enter f args) w
  calls : ∀ W', Below W.heap.size W W' → ∀ x : Int, Calls Try.prog f (#[.int .u8 x] ++ cap) W' fun e w' => e = .returned (.bool (p x)) ∧ Below W'.heap.size W' w'

theorem anyU_take_no {p : Int → Bool} {l : List Int} {k : Nat} {x : Int} (h : (l.take k).any p = false) (hx : l[k]? = some x) (hp : p x = false) : (l.take (k + 1)).any p = false := by
  rw [List.take_add_one, hx]
  simp [h, hp]

theorem anyU_at {p : Int → Bool} {l : List Int} {k : Nat} {x : Int} (hx : l[k]? = some x) (hp : p x = true) : l.any p = true :=
  List.any_eq_true.2 ⟨x, List.mem_of_getElem? hx, hp⟩

set_option maxHeartbeats 1000000 in
theorem index_u8f (f : FuncId) (cap : Array Value) (p : Int → Bool) (b o c n : Nat) (l : List Int) (hn : l.length = n) (hm : n ≤ 1000) (w : World) (h : LstU w b o l) (hp : PredU w f cap p) :
    Calls Try.prog 104 #[.slice (some ⟨b, o, none⟩) n c, .func (.func f) #[] cap] w fun e w' => (∃ k : Int, e = .returned (.int .i64 k) ∧ decide (0 ≤ k) = l.any p) ∧ Below w.heap.size w w' := by
  have HN := Lib.hid hn
  have HS := Lib.hid h
  have HP := Lib.hid hp
  clear hn h hp
  go_enter Try.func104, Try.ntmps104
  go_wp2_with fail
  go_loopg [8] n (fun gk i wr => ∃ k : Nat, k ≤ n ∧ gk = n - k ∧ i = .int .i64 k ∧ Hid ((l.take k).any p = false) ∧ Hid (Below w.heap.size w wr))
  case atStart => exact ⟨0, Nat.zero_le _, by omega, rfl, Lib.hid (by simp), Lib.hid (Below.refl _ _)⟩
  case round =>
    obtain ⟨k, hk, hgk, rfl, HA, HB⟩ := hrel
    have HG := Lib.hid hgk
    clear hgk
    by_cases hlt : k < n
    · obtain ⟨x, hx⟩ := getI (l := l) (i := k) (by rw [HN.out]; exact hlt)
      have hat := (HS.out.below HB.out).2 k x hx
      obtain ⟨q, hq⟩ : ∃ q, p x = q := ⟨_, rfl⟩
      have HX := Lib.hid (And.intro hx hq)
      have hcon := HP.out.calls wr HB.out x
      rw [hq] at hcon
      have hen := HP.out.enter
      clear hx hq
      go_wp2_with fail
      refine hcon.mono ?_
      rintro e w1 ⟨rfl, hb1⟩
      have HB1 := Lib.hid (below_tr HB.out hb1)
      clear hcon hb1 hat
      cases q
      · go_wp2_with fail
        go_roundg (n - (k + 1))
        case measure => have := HG.out; omega
        case rel => exact ⟨k + 1, by omega, rfl, by go_num, Lib.hid (anyU_take_no HA.out HX.out.1 HX.out.2), HB1⟩
      · go_wp2_with fail
        go_ret
        exact ⟨⟨k, rfl, by rw [anyU_at HX.out.1 HX.out.2]; simp⟩, HB1.out⟩
    · have hlt' : decide (k < n) = false := by simpa using hlt
      have HK : Hid (k = n) := Lib.hid (by omega)
      go_wp2_with fail
      go_ret
      refine ⟨⟨-1, rfl, ?_⟩, HB.out⟩
      have := HA.out
      rw [HK.out, ← HN.out, List.take_length] at this
      rw [this]
      rfl

theorem contains_u8f (f : FuncId) (cap : Array Value) (p : Int → Bool) (b o c n : Nat) (l : List Int) (hn : l.length = n) (hm : n ≤ 1000) (w : World) (h : LstU w b o l) (hp : PredU w f cap p) (r : Bool) (hr : l.any p = r) :
    Calls Try.prog 98 #[.slice (some ⟨b, o, none⟩) n c, .func (.func f) #[] cap] w fun e w' => e = .returned (.bool r) ∧ Below w.heap.size w w' := by
  have hcon := index_u8f f cap p b o c n l hn hm w h hp
  have HB := Lib.hid hr
  clear hr
  go_enter Try.func98, Try.ntmps98
  go_wp2_with fail
  refine hcon.mono ?_
  rintro e w1 ⟨⟨k, rfl, hk⟩, hb1⟩
  rw [HB.out] at hk
  have HB1 := Lib.hid hb1
  clear hcon hb1
  go_wp2_with fail
  go_ret
  exact ⟨by first | rfl | (rw [← hk]), HB1.out⟩

set_option maxHeartbeats 1000000 in
theorem index_u8 (v : Int) (b o c n : Nat) (l : List Int) (hn : l.length = n) (hm : n ≤ 1000) (w : World) (h : LstU w b o l) :
    Calls Try.prog 105 #[.slice (some ⟨b, o, none⟩) n c, .int .u8 v] w fun e w' => (∃ k : Int, e = .returned (.int .i64 k) ∧ decide (0 ≤ k) = l.any (fun x => v == x)) ∧ w = w' := by
  have HN := Lib.hid hn
  have HS := Lib.hid h
  clear hn h
  go_enter Try.func105, Try.ntmps105
  go_wp2_with fail
  go_loopg [8] n (fun gk i wr => ∃ k : Nat, k ≤ n ∧ gk = n - k ∧ i = .int .i64 k ∧ Hid ((l.take k).any (fun x => v == x) = false) ∧ w = wr)
  case atStart => exact ⟨0, Nat.zero_le _, by omega, rfl, Lib.hid (by simp), rfl⟩
  case round =>
    obtain ⟨k, hk, hgk, rfl, HA, rfl⟩ := hrel
    have HG := Lib.hid hgk
    clear hgk
    by_cases hlt : k < n
    · obtain ⟨x, hx⟩ := getI (l := l) (i := k) (by rw [HN.out]; exact hlt)
      have hat := HS.out.2 k x hx
      by_cases hq : v = x
      · have HX := Lib.hid (And.intro hx hq)
        clear hx
        go_wp2_with fail
        go_ret
        exact ⟨⟨k, rfl, by rw [anyU_at HX.out.1 (by simp [HX.out.2])]; simp⟩, rfl⟩
      · have hq' : (v == x) = false := by simpa using hq
        have HX := Lib.hid (And.intro hx hq')
        clear hx
        go_wp2_with fail
        go_roundg (n - (k + 1))
        case measure => have := HG.out; omega
        case rel => exact ⟨k + 1, by omega, rfl, by go_num, Lib.hid (anyU_take_no HA.out HX.out.1 HX.out.2), rfl⟩
    · have hlt' : decide (k < n) = false := by simpa using hlt
      have HK : Hid (k = n) := Lib.hid (by omega)
      go_wp2_with fail
      go_ret
      refine ⟨⟨-1, rfl, ?_⟩, rfl⟩
      have := HA.out
      rw [HK.out, ← HN.out, List.take_length] at this
      rw [this]
      rfl

theorem contains_u8 (v : Int) (b o c n : Nat) (l : List Int) (hn : l.length = n) (hm : n ≤ 1000) (w : World) (h : LstU w b o l) (r : Bool) (hr : l.any (fun x => v == x) = r) :
    Calls Try.prog 100 #[.slice (some ⟨b, o, none⟩) n c, .int .u8 v] w fun e w' => e = .returned (.bool r) ∧ w = w' := by
  have hcon := index_u8 v b o c n l hn hm w h
  have HB := Lib.hid hr
  clear hr
  go_enter Try.func100, Try.ntmps100
  go_wp2_with fail
  refine hcon.mono ?_
  rintro e w1 ⟨⟨k, rfl, hk⟩, rfl⟩
  rw [HB.out] at hk
  clear hcon
  go_wp2_with fail
  go_ret
  exact ⟨by first | rfl | (rw [← hk]), rfl⟩
end Go.Proofs.Ytkipnkbmpgjcoaa
