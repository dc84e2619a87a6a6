/-
  Package key's own: Of, Whole, Same, Refers, Set.
-/
import Derived.Test.YtenpjfkiehcjlaaGreatDoorKCode2
import Derived.StillTailTactics
namespace Go.Proofs.YtenpjfkiehcjlaaGreatDoor
open Go.RowKit

theorem ofL_wf {l : List Val} {cs : List Int} (hw : ∀ x ∈ l, x.wf) : ∀ x ∈ ofL Val.zero l cs, x.wf := by
  intro x hx
  obtain ⟨i, _, rfl⟩ := List.mem_map.mp hx
  rw [List.getD_eq_getElem?_getD]
  cases h : l[i.toNat]? with
  | none => exact ⟨by decide, by decide, i64_0, i64_0, by decide⟩
  | some y => exact hw y (List.mem_of_getElem? h)

theorem mayC_in {cs : List Int} {n : Nat} (h : mayC cs n = true) : ∀ x ∈ cs, 0 ≤ x ∧ x < n := ((mayC_iff cs n).mp h).2.1

/-- Of: what comes of valid columns, and what of others. -/
theorem of_no (a a' : Option Addr) (c c' n k : Nat) (cs : List Int) (hk : cs.length = k) (hs : k ≤ 1000000) (hv : mayC cs n = false) (w : World) (h2 : SlI w a' c' cs) :
    Calls Tryz.prog 6 #[.slice a n c, .slice a' k c'] w fun e w' => e = .returned (.tuple #[.slice none 0 0, .int .i64 4]) ∧ Below w.heap.size w w' := by
  have hcon := fun W (hB : Below w.heap.size w W) => kmay_is a' c' k cs (n : Int) false hk hs (by rw [Int.toNat_natCast]; exact hv) W (h2.below hB)
  clear h2
  go_enter Tryz.func6, Tryz.ntmps6
  go_wp2_with fail
  refine (hcon _ (Below.refl _ _)).mono ?_
  rintro e w1 ⟨rfl, hb1⟩
  clear hcon
  go_wp2_with fail
  go_ret2
  exact ⟨rfl, hb1⟩

theorem of_is (a a' : Option Addr) (c c' n k : Nat) (l : List Val) (cs : List Int) (hn : l.length = n) (hk : cs.length = k) (hs : k ≤ 1000000) (hv : mayC cs n = true) (w : World) (h1 : SlL w a c l) (h2 : SlI w a' c' cs) :
    Calls Tryz.prog 6 #[.slice a n c, .slice a' k c'] w fun e w' => ∃ g, e = .returned (.tuple #[.slice (some ⟨g, 0, none⟩) k k, .int .i64 0]) ∧ w.heap.size ≤ g ∧ Own w' g (ofL Val.zero l cs) ∧ Below w.heap.size w w' := by
  have hcon := fun W (hB : Below w.heap.size w W) => kmay_is a' c' k cs (n : Int) true hk hs (by rw [Int.toNat_natCast]; exact hv) W (h2.below hB)
  have hcon2 := fun W (hB : Below w.heap.size w W) => at_is a a' c c' n k l cs hn hk hs (mayC_in hv) W (h1.below hB) (h2.below hB)
  have HW := Lib.hid h1.wf
  have HK := Lib.hid hk
  clear h1 h2 hn hk hv
  go_enter Tryz.func6, Tryz.ntmps6
  go_wp2_with fail
  refine (hcon _ (Below.refl _ _)).mono ?_
  rintro e w1 ⟨rfl, hb1⟩
  have HB1 := Lib.hid hb1
  clear hcon hb1
  go_wp2_with fail
  refine (hcon2 _ HB1.out).mono ?_
  rintro e w2 ⟨g, rfl, hg, hO, hb2⟩
  have HO := Lib.hid hO
  have HB2 : Hid (Below w.heap.size w w2) := Lib.hid (below_tr HB1.out hb2)
  have HG : Hid (w.heap.size ≤ g) := Lib.hid (Nat.le_trans HB1.out.size hg)
  have hcon3 := detach_is g k k (ofL Val.zero l cs) (by rw [length_ofL]; exact HK.out) hs (ofL_wf HW.out) w2 hO
  clear hcon2 hO hb2 hg
  go_wp2_with fail
  refine hcon3.mono ?_
  rintro e w3 ⟨rfl, hb3⟩
  have HB3 : Hid (Below w.heap.size w w3) := Lib.hid (below_tr HB2.out hb3)
  have HO3 := Lib.hid (HO.out.below hb3)
  clear hcon3 hb3
  go_wp2_with fail
  go_ret2
  exact ⟨g, rfl, HG.out, HO3.out, HB3.out⟩

/-! ### Complete -/

def nullV (v : Val) : Bool := v.k == 0
def wholeV (l : List Val) : Bool := whole nullV l

theorem null_is (x : Val) (w : World) : Calls Tryz.prog 31 #[.agg #[.int .u8 x.k, .int .i64 x.n, .int .i64 x.u, .string x.t]] w fun e w' => e = .returned (.bool (nullV x)) ∧ Below w.heap.size w w' := by
  unfold nullV
  obtain ⟨z, hz⟩ : ∃ z, (x.k == 0) = z := ⟨_, rfl⟩
  rw [hz]
  go_enter Tryz.func31, Tryz.ntmps31
  go_wp2_with fail
  go_ret
  exact ⟨by first | rfl | rw [← hz], Below.allocs _ _⟩

theorem contains_is (b o n c : Nat) (l : List Val) (hn : l.length = n) (hs : n ≤ 1000000) (w : World) (hb : b < w.heap.size) (hat : Lst w b o l) :
    Calls Tryz.prog 30 #[.slice (some ⟨b, o, none⟩) n c, .func (.func 31) #[] #[]] w fun e w' => e = .returned (.bool (l.any nullV)) ∧ Below w.heap.size w w' := by
  have eg : ∀ args w, (callFunc 31 args).run Tryz.prog w = .ok (.enter 31 args) w := enters_of Tryz.func31 (by kernel_rfl) rfl
  have hcon := AnyQ.slices_ContainsFunc Tryz.containsV 4 (fun _ => by kernel_rfl) (fun _ => by kernel_rfl) encV (fun _ => rfl) nullV 31 #[] eg b o n c l w (fun W x hB => (null_is x W).mono fun e w' ⟨he, hb⟩ => ⟨he, hB.trans (hb.mono hB.size)⟩) (by omega) (by omega) hb
    (fun j hj i v hv => by
      rw [getElem!_pos l j hj] at hv
      exact encV_get (hat j l[j] (by simp)) hv)
  change Calls Tryz.prog 30 _ _ _ at hcon
  rw [List.take_of_length_le (by omega)] at hcon
  exact hcon

theorem whole_any (l : List Val) : wholeV l = (!l.isEmpty && !l.any nullV) := by
  unfold wholeV whole
  congr 1
  induction l with
  | nil => rfl
  | cons x l ih => simp [ih]

theorem whole_is (a : Option Addr) (c n : Nat) (l : List Val) (z : Bool) (hn : l.length = n) (hs : n ≤ 1000000) (hz : wholeV l = z) (w : World) (h1 : SlL w a c l) :
    Calls Tryz.prog 14 #[.slice a n c] w fun e w' => e = .returned (.bool z) ∧ Below w.heap.size w w' := by
  by_cases h0 : l = []
  · subst h0
    obtain rfl : n = 0 := by simpa using hn.symm
    rw [whole_any] at hz
    obtain rfl : z = false := by rw [← hz]; rfl
    clear h1 hn hz
    go_enter Tryz.func14, Tryz.ntmps14
    go_wp2_with fail
    go_ret
    exact ⟨rfl, Below.refl _ _⟩
  · obtain ⟨b, o, rfl, hl⟩ := h1.at' h0
    have hpos : 0 < n := by rw [← hn]; exact List.length_pos_iff.mpr h0
    have hposz : 0 < (n : Int) := by omega
    have hb : b < w.heap.size := (hl 0 (l[0]'(by omega)) (by simp)).2.2.2.2
    have hcon := fun W (hB : Below w.heap.size w W) => contains_is b o n c l hn hs W (Nat.lt_of_lt_of_le hb hB.size) (hl.below hB)
    have hzz : (!l.any nullV) = z := by
      rw [← hz, whole_any]
      cases l with
      | nil => exact absurd rfl h0
      | cons x l => rfl
    have HZ := Lib.hid hzz
    obtain ⟨y, hy⟩ : ∃ y, l.any nullV = y := ⟨_, rfl⟩
    rw [hy] at hcon hzz
    clear h1 hn hz hl h0 hy HZ
    go_enter Tryz.func14, Tryz.ntmps14
    go_wp2_with fail
    refine (hcon _ (Below.refl _ _)).mono ?_
    rintro e w1 ⟨rfl, hb1⟩
    clear hcon
    go_wp2_with fail
    go_ret
    exact ⟨by first | rfl | rw [hzz], hb1⟩

/-! ### The same -/

def sameV (l m : List Val) : Bool := sameK nullV l m

theorem ksame_is (a a' : Option Addr) (c c' n k : Nat) (l m : List Val) (z : Bool) (hn : l.length = n) (hk : m.length = k) (hs : n ≤ 1000000) (ht : k ≤ 1000000) (hz : sameV l m = z) (w : World) (h1 : SlL w a c l) (h2 : SlL w a' c' m) :
    Calls Tryz.prog 18 #[.slice a n c, .slice a' k c'] w fun e w' => e = .returned (.bool z) ∧ Below w.heap.size w w' := by
  obtain ⟨x, hx⟩ : ∃ x, wholeV l = x := ⟨_, rfl⟩
  obtain ⟨y, hy⟩ : ∃ y, wholeV m = y := ⟨_, rfl⟩
  obtain ⟨q, hq⟩ : ∃ q, decide (l = m) = q := ⟨_, rfl⟩
  have hc1 := fun W (hB : Below w.heap.size w W) => whole_is a c n l x hn hs hx W (h1.below hB)
  have hc2 := fun W (hB : Below w.heap.size w W) => whole_is a' c' k m y hk ht hy W (h2.below hB)
  have hc3 := fun W (hB : Below w.heap.size w W) => same_is a a' c c' n k l m q hn hk hq W (h1.below hB) (h2.below hB)
  have hzz : (x && (y && q)) = z := by rw [← hz, ← hx, ← hy, ← hq]; rfl
  clear h1 h2 hn hk hx hy hq hz
  subst hzz
  cases x with
  | false =>
    go_enter Tryz.func18, Tryz.ntmps18
    go_wp2_with fail
    refine (hc1 _ (Below.refl _ _)).mono ?_
    rintro e w1 ⟨rfl, hb1⟩
    clear hc1 hc2 hc3
    go_wp2_with fail
    go_ret
    exact ⟨rfl, hb1⟩
  | true =>
    cases y with
    | false =>
      go_enter Tryz.func18, Tryz.ntmps18
      go_wp2_with fail
      refine (hc1 _ (Below.refl _ _)).mono ?_
      rintro e w1 ⟨rfl, hb1⟩
      have HB1 := Lib.hid hb1
      clear hc1 hc3 hb1
      go_wp2_with fail
      refine (hc2 _ HB1.out).mono ?_
      rintro e w2 ⟨rfl, hb2⟩
      have HB2 := Lib.hid (below_tr HB1.out hb2)
      clear hc2 hb2
      go_wp2_with fail
      go_ret
      exact ⟨rfl, HB2.out⟩
    | true =>
      go_enter Tryz.func18, Tryz.ntmps18
      go_wp2_with fail
      refine (hc1 _ (Below.refl _ _)).mono ?_
      rintro e w1 ⟨rfl, hb1⟩
      have HB1 := Lib.hid hb1
      clear hc1 hb1
      go_wp2_with fail
      refine (hc2 _ HB1.out).mono ?_
      rintro e w2 ⟨rfl, hb2⟩
      have HB2 := Lib.hid (below_tr HB1.out hb2)
      clear hc2 hb2
      go_wp2_with fail
      refine (hc3 _ HB2.out).mono ?_
      rintro e w3 ⟨rfl, hb3⟩
      have HB3 := Lib.hid (below_tr HB2.out hb3)
      clear hc3 hb3
      go_wp2_with fail
      go_ret
      exact ⟨rfl, HB3.out⟩

end Go.Proofs.YtenpjfkiehcjlaaGreatDoor
