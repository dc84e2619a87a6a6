/-
  New, Len, first, Height: walked.
-/
import Derived.Test.YtfikaccgpjiedaaJBTopM
import Derived.StillTailTactics
namespace Go.Proofs.Ytfikaccgpjiedaa
open Go.RowKit Go.Lib

theorem tnew_is (w : World) : Calls Try.prog 9 #[] w fun e w' => ∃ g F, e = .returned (nodeV g) ∧ Top w' g [] F ∧ (∀ k, F k → w.heap.size ≤ k) ∧ Below w.heap.size w w' := by
  have hbw := Below.allocs w (.cells #[.pointer none, .int .i64 0] 53)
  have hbx := Lit.new w [.pointer none, .int .i64 0] 53 (by intro v hv; simp at hv; rcases hv with rfl | rfl <;> rfl)
  rw [show ([Value.pointer none, Value.int .i64 0] : List Value).toArray = (#[.pointer none, .int .i64 0] : Array Value) from rfl] at hbx
  obtain ⟨V, hV⟩ : ∃ V, w.alloc (.cells #[.pointer none, .int .i64 0] 53) = V := ⟨_, rfl⟩
  rw [hV] at hbw hbx
  have HV := Lib.hid hV
  have HBW := Lib.hid hbw
  have HBX := Lib.hid hbx
  clear hV hbw hbx
  go_enter Try.func9, Try.ntmps9
  go_wp2_with fail
  rw [HV.out]
  go_ret
  refine ⟨w.heap.size, fun k => k = w.heap.size, rfl, ⟨⟨_, HBX.out, .inl ⟨rfl, rfl⟩⟩, rfl, fun k hk => ?_⟩, fun k hk => Nat.le_of_eq hk.symm, HBW.out⟩
  rw [hk]
  exact HBX.out.lt

theorem tlen_is (w : World) (g : Nat) (L : List Ent) (F : Nat → Prop) (ht : Top w g L F) : Calls Try.prog 14 #[nodeV g] w fun e w' => e = .returned (.int .i64 (L.length : Int)) ∧ Below w.heap.size w w' := by
  obtain ⟨r, hl, _⟩ := ht.lit
  obtain ⟨m, hm⟩ : ∃ m : Int, (L.length : Int) = m := ⟨_, rfl⟩
  rw [hm] at hl ⊢
  obtain ⟨_, c1, _, _⟩ := hl.two
  have hlt := hl.lt
  unfold nodeV
  clear hl ht hm
  go_enter Try.func14, Try.ntmps14
  go_wp2_with fail
  go_ret
  exact ⟨rfl, Below.refl _ _⟩

/-- first: a leaf has none; any other node has its first child. -/
theorem first_leaf_is (g cc : Nat) (ca : Option Addr) (w : World) (h : w.cell? ⟨g, 1, none⟩ = some (.slice ca 0 cc)) :
    Calls Try.prog 30 #[.pointer (some ⟨g, 0, none⟩)] w fun e w' => e = .returned (.pointer none) ∧ Below w.heap.size w w' := by
  have hlf := leaf_is g 0 cc ca true (by decide) w h
  clear h
  go_enter Try.func30, Try.ntmps30
  go_wp2_with fail
  refine hlf.mono ?_
  rintro e v ⟨rfl, hb⟩
  have HB := Lib.hid hb
  clear hb hlf
  go_wp2_with fail
  go_ret
  exact ⟨rfl, HB.out⟩

theorem first_node_is (g k cc b o x : Nat) (hk : 1 ≤ k) (w : World) (h : w.cell? ⟨g, 1, none⟩ = some (.slice (some ⟨b, o, none⟩) k cc)) (hx : w.cell? ⟨b, o, none⟩ = some (.pointer (some ⟨x, 0, none⟩))) :
    Calls Try.prog 30 #[.pointer (some ⟨g, 0, none⟩)] w fun e w' => e = .returned (.pointer (some ⟨x, 0, none⟩)) ∧ Below w.heap.size w w' := by
  have hlf := leaf_is g k cc (some ⟨b, o, none⟩) false (by simp; omega) w h
  have hlt := World.block_lt_of_cell? _ _ h
  have hltb := World.block_lt_of_cell? _ _ hx
  have HH := Lib.hid (And.intro h (And.intro hx (And.intro hlt hltb)))
  have hkz : (0 : Int) < (k : Int) := by omega
  clear h hx hlt hltb
  go_enter Try.func30, Try.ntmps30
  go_wp2_with fail
  refine hlf.mono ?_
  rintro e v ⟨rfl, hb⟩
  have HB := Lib.hid hb
  have c1 : v.cell? ⟨g, 1, none⟩ = some (.slice (some ⟨b, o, none⟩) k cc) := by rw [hb.cell (p := ⟨g, 1, none⟩) HH.out.2.2.1]; exact HH.out.1
  have c2 : v.cell? ⟨b, o, none⟩ = some (.pointer (some ⟨x, 0, none⟩)) := by rw [hb.cell (p := ⟨b, o, none⟩) HH.out.2.2.2]; exact HH.out.2.1
  have hlt : g < v.heap.size := Nat.lt_of_lt_of_le HH.out.2.2.1 hb.size
  have hltb : b < v.heap.size := Nat.lt_of_lt_of_le HH.out.2.2.2 hb.size
  clear hb hlf
  go_wp2_with fail
  go_ret
  exact ⟨rfl, HB.out⟩

/-- Whatever first says of a node of a tree. -/
def firstV : (h : Nat) → Nd (Kid h) → Value
  | 0, _ => .pointer none
  | h + 1, n => match n.ks with
    | [] => .pointer none
    | c :: _ => .pointer (some ⟨kg (h + 1) c, 0, none⟩)

theorem first_is (h : Nat) (n : Nd (Kid h)) (lo hi : Nat) (w : World) (hn : InN w (h + 1) n) (hw : wfN (h + 1) lo hi n) :
    Calls Try.prog 30 #[.pointer (some ⟨n.g, 0, none⟩)] w fun e w' => e = .returned (firstV h n) ∧ Below w.heap.size w w' := by
  have g1 := hn.self.g1
  cases h with
  | zero =>
    rw [List.length_map, ks_leaf] at g1
    exact first_leaf_is n.g n.cc n.ca w g1
  | succ h =>
    have hl : n.ks.length = n.es.length + 1 := hw.2.2.1 (by omega)
    have cr := hn.self.cr
    cases hk : n.ks with
    | nil => rw [hk] at hl; simp at hl
    | cons c l =>
      obtain ⟨cb, co, hca, k0, _, klt⟩ := kid_at cr (i := 0) (g := kg (h + 1) c) (by rw [hk]; rfl)
      rw [hca] at g1
      rw [List.length_map] at g1
      have e : firstV (h + 1) n = .pointer (some ⟨kg (h + 1) c, 0, none⟩) := by simp only [firstV]; rw [hk]
      rw [e]
      exact first_node_is n.g n.ks.length n.cc cb co (kg (h + 1) c) (by omega) w g1 (by simpa using k0)

end Go.Proofs.Ytfikaccgpjiedaa

/-
  Height, Copy: walked.
-/
namespace Go.Proofs.Ytfikaccgpjiedaa
open Go.RowKit Go.Lib

/-- Where Height stands: at a node with h levels, or behind a leaf. -/
def Down (W : World) (K : Nat → Prop) (H j : Nat) (v : Value) : Prop :=
  (v = .pointer none ∧ j = H) ∨ ∃ (h lo : Nat) (n : Nd (Kid h)), v = .pointer (some ⟨n.g, 0, none⟩) ∧ Tree (h + 1) lo 7 W K n ∧ j + (h + 1) = H

theorem Down.next {W : World} {K : Nat → Prop} {H j h lo : Nat} {n : Nd (Kid h)} (t : Tree (h + 1) lo 7 W K n) (hj : j + (h + 1) = H) : Down W K H (j + 1) (firstV h n) := by
  cases h with
  | zero => exact .inl ⟨rfl, hj⟩
  | succ h =>
    have hl : n.ks.length = n.es.length + 1 := t.wf.2.2.1 (by omega)
    cases hk : n.ks with
    | nil => rw [hk] at hl; simp at hl
    | cons c l =>
      exact .inr ⟨h, 3, c, by simp only [firstV]; rw [hk]; rfl, t.kid (i := 0) (by rw [hk]; rfl), by omega⟩

set_option maxRecDepth 100000 in
theorem height_root_is (g : Nat) (r : Value) (m : Int) (w : World) (K : Nat → Prop) (H : Nat) (hH : H ≤ 100) (hl : Lit w g [r, .int .i64 m]) (hd : Down w K H 0 r) :
    Calls Try.prog 15 #[nodeV g] w fun e w' => e = .returned (.int .i64 (H : Int)) ∧ Below w.heap.size w w' := by
  obtain ⟨c0, _, _, _⟩ := hl.two
  have hlt := hl.lt
  have HD := Lib.hid hd
  unfold nodeV
  clear hl hd
  go_enter Try.func15, Try.ntmps15
  go_wp2_with fail
  go_loopg [3, 4] H (fun gg s3 s4 wr => ∃ j : Nat, s3 = .int .i64 j ∧ j ≤ H ∧ H - j ≤ gg ∧ Hid (Down w K H j s4) ∧ Hid (Below w.heap.size w wr))
  case atStart => exact ⟨0, rfl, Nat.zero_le _, by omega, HD, Lib.hid (Below.refl _ _)⟩
  case round =>
    obtain ⟨j, rfl, hj, hgg, HJ, HB⟩ := hrel
    rcases HJ.out with ⟨rfl, rfl⟩ | ⟨h, lo, n, rfl, t, hjH⟩
    · go_wp2_with fail
      go_ret
      exact ⟨rfl, HB.out⟩
    · have tr := t.below HB.out
      have hfs := fun W (hb : Below wr.heap.size wr W) => first_is h n lo 7 W (tr.inn.below hb) t.wf
      have HF := Lib.hid hfs
      have HN := Lib.hid (Down.next t hjH)
      clear hfs tr t c0 hlt
      go_wp2_with fail
      refine (HF.out _ (Below.refl _ _)).mono ?_
      rintro e v ⟨rfl, hb⟩
      have HV := Lib.hid (below_tr HB.out hb)
      clear hb
      go_wp2_with fail
      go_roundg (H - (j + 1))
      case measure => omega
      case rel => exact ⟨j + 1, by go_num, by omega, Nat.le_refl _, HN, HV⟩

theorem theight_is (w : World) (g : Nat) (L : List Ent) (F : Nat → Prop) (hL : L.length ≤ 2000) (ht : Top w g L F) :
    Calls Try.prog 15 #[nodeV g] w fun e w' => ∃ h : Nat, e = .returned (.int .i64 (h : Int)) ∧ HighOk L.length h ∧ Below w.heap.size w w' := by
  obtain ⟨r, hl, hr⟩ := ht.lit
  rcases hr with ⟨rfl, rfl⟩ | ⟨h, n, K, rfl, t, he, _, _⟩
  · refine (height_root_is g _ _ w (fun _ => False) 0 (by omega) hl (.inl ⟨rfl, rfl⟩)).mono ?_
    rintro e w' ⟨rfl, hb⟩
    exact ⟨0, rfl, .inl ⟨rfl, rfl⟩, hb⟩
  · have hf := t.few (by rw [he]; exact hL)
    refine (height_root_is g _ _ w K (h + 1) (by omega) hl (.inr ⟨h, 1, n, rfl, t, by omega⟩)).mono ?_
    rintro e w' ⟨rfl, hb⟩
    exact ⟨h + 1, rfl, by rw [← he]; exact t.high, hb⟩

end Go.Proofs.Ytfikaccgpjiedaa

