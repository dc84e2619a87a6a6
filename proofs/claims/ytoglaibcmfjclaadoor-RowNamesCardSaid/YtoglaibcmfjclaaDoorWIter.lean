/-
  row.split: the iterator over the parts of a row's text.
-/
import Derived.Test.YtoglaibcmfjclaaDoorWCut
import Derived.RangeFuncBox
import Derived.RangeFuncLeaves
import Derived.Shelf.Abstract
import Derived.OwnWalkIn
import Derived.TacticsInMore
import Derived.LoopNIn
import Derived.LoopIn
namespace Go.Proofs.YtoglaibcmfjclaaDoor
open Go.RowKit

/-- What the loop whose turns are asked for promises the iterator: a part that is a value's text is taken; another one ends it. -/
structure Turns (l : Nat) (J : List Val → World → Prop) (Stop : World → Prop) : Prop where
  old : ∀ L W W', J L W → Below W.heap.size W W' → J L W'
  stop : ∀ W W', Stop W → Below W.heap.size W W' → Stop W'
  yes : ∀ L (p : ByteArray) v W, J L W → L.length ≤ 200000 → p.size ≤ 100000 → parV p.data.toList = some v → YieldAt .wide 0 Tryd.prog l #[.string p] W fun e W' => e = .returned (.bool true) ∧ J (L ++ [v]) W'
  no : ∀ L (p : ByteArray) W, J L W → L.length ≤ 200000 → p.size ≤ 100000 → parV p.data.toList = none → YieldAt .wide 0 Tryd.prog l #[.string p] W fun e W' => e = .returned (.bool false) ∧ Stop W'

theorem split_is (s : ByteArray) (w : World) :
    Calls Tryd.prog 41 #[.string s] w fun e w' => e = .returned (.func (.func 56) #[] #[.pointer (some ⟨w.heap.size, 0, none⟩)]) ∧ w' = w.alloc (.cells #[.string s] 9) := by
  go_enter Tryd.func41, Tryd.ntmps41
  go_wp2
  go_ret
  exact ⟨rfl, rfl⟩

/-- What counts the turns. -/
def msr : Value → Value → Nat
  | .string s, .bool true => s.size + 1
  | _, _ => 0

/-- What holds between two turns: what is left of s, whether there is something left, and what was read. -/
structure Going (s r : ByteArray) (m : Bool) (L : List Val) : Prop where
  done : m = false → rowIn s.data.toList = some L
  left : m = true → ∃ k, r.size < k ∧ goP k L r.data.toList = rowIn s.data.toList
  small : m = true → L.length + r.size ≤ 100000

theorem Going.start (s : ByteArray) (hs : s.size ≤ 100000) : Going s s (!s.toList.isEmpty) [] := by
  have e : s.data.toList = s.toList := by rw [ByteArray.toList_eq]
  refine ⟨fun h => ?_, fun h => ?_, fun _ => by simpa using hs⟩
  · have h0 : s.toList = [] := by simpa using h
    rw [e, h0]
    rfl
  · have h0 : s.toList ≠ [] := by simpa using h
    refine ⟨s.data.toList.length + 1, by simp, ?_⟩
    unfold rowIn
    rw [if_neg (by rw [e]; exact h0)]

theorem CutS.part_size {s p r : ByteArray} {b : Bool} (h : CutS s p r b) : p.size ≤ s.size ∧ (b = true → p.size + 2 + r.size = s.size) ∧ (b = false → r.size = 0) := by
  have e1 : p.size = p.data.toList.length := rfl
  have e2 : s.size = s.data.toList.length := rfl
  have e3 : r.size = r.data.toList.length := rfl
  have hx := h.1
  cases b
  · have h1 : (cutG false s.data.toList).2 = none := by rw [hx]; rfl
    have h2 := cutG_none _ _ h1
    rw [hx] at h2
    refine ⟨by rw [e1, e2, ← h2]; exact Nat.le_refl _, fun e => (by cases e), fun _ => by rw [h.2 rfl]; rfl⟩
  · have h1 : (cutG false s.data.toList).2 = some r.data.toList := by rw [hx]; rfl
    have h2 := cutG_some _ _ _ h1
    rw [hx] at h2
    have h3 := congrArg List.length h2
    simp only [List.length_append, List.length_cons] at h3
    exact ⟨by rw [e1, e2]; omega, fun _ => by rw [e1, e2, e3]; omega, fun e => by cases e⟩

theorem Going.bad {s r p r' : ByteArray} {m b : Bool} {L : List Val} (h : Going s r m L) (hm : m = true) (hc : CutS r p r' b) (hv : parV p.data.toList = none) : rowIn s.data.toList = none := by
  obtain ⟨k, hk, e⟩ := h.left hm
  obtain ⟨j, rfl⟩ : ∃ j, k = j + 1 := ⟨k - 1, by omega⟩
  rw [← e, goP_bad (by rw [hc.1]; exact hv)]

theorem Going.more {s r p r' : ByteArray} {m b : Bool} {L : List Val} {v : Val} (h : Going s r m L) (hm : m = true) (hc : CutS r p r' b) (hv : parV p.data.toList = some v) : Going s r' b (L ++ [v]) ∧ msr (.string r') (.bool b) < msr (.string r) (.bool true) := by
  obtain ⟨k, hk, e⟩ := h.left hm
  obtain ⟨j, rfl⟩ : ∃ j, k = j + 1 := ⟨k - 1, by omega⟩
  have hz := hc.part_size
  have hs := h.small hm
  cases b
  · have e1 : goP (j + 1) L r.data.toList = some (L ++ [v]) := goP_last (by rw [hc.1]; exact hv) (by rw [hc.1]; rfl)
    refine ⟨⟨fun _ => by rw [← e, e1], fun e => (by cases e), fun e => by cases e⟩, ?_⟩
    show 0 < r.size + 1
    omega
  · have e1 : goP (j + 1) L r.data.toList = goP j (L ++ [v]) r'.data.toList := goP_more (by rw [hc.1]; exact hv) (by rw [hc.1]; rfl)
    have hz2 := hz.2.1 rfl
    refine ⟨⟨fun e => (by cases e), fun _ => ⟨j, by omega, by rw [← e1, e]⟩, fun _ => by simp; omega⟩, ?_⟩
    show r'.size + 1 < r.size + 1
    omega

theorem cell_lt {W : World} {a : Addr} {v : Value} (h : W.cell? a = some v) : a.block < W.heap.size := by
  obtain ⟨b, o, s⟩ := a
  unfold World.cell? at h
  dsimp only at h
  split at h
  · rename_i c _ _ hb
    exact (Array.getElem?_eq_some_iff.1 hb).1
  · cases h

section
attribute [local go_sem] Oper.semAt_some

set_option maxRecDepth 100000 in
set_option maxHeartbeats 2000000 in
theorem split1_is (l B : Nat) (s : ByteArray) (J : List Val → World → Prop) (Stop : World → Prop) (ht : Turns l J Stop) (hs : s.size ≤ 100000) (W : World) (hJ : J [] W) (hc : W.cell? ⟨B, 0, none⟩ = some (.string s)) :
    CallsIn .wide 1 Tryd.prog 56 #[.func (.yield l) #[] #[], .pointer (some ⟨B, 0, none⟩)] W fun e W' => (∃ x, e = .returned x) ∧ ((∃ L, rowIn s.data.toList = some L ∧ J L W') ∨ (rowIn s.data.toList = none ∧ Stop W')) := by
  have HC := Lib.hid hc
  have HLT : Hid (B < W.heap.size) := Lib.hid (cell_lt hc)
  have HJ := Lib.hid hJ
  have HT := Lib.hid ht
  clear hJ ht
  refine callsIn_of_wp Tryd.func56 rfl trivial ?_ rfl
  simp only [Tryd.ntmps56, List.size_toArray, List.length_cons, List.length_nil, Nat.reduceAdd, Nat.reduceSub, Array.replicate_succ, Array.replicate_zero, List.push_toArray, List.append_toArray, List.nil_append, List.cons_append]
  gi_wp2_with fail
  refine wpIn_wide.2 ?_
  have hdr := below_drw W
  try simp only [List.append_eq, List.cons_append, List.nil_append]
  refine RX.wp_region_plan (fun w w' => Below w.heap.size w w') [.it (.string s), .it (.string s), .it (.bool (!s.toList.isEmpty)), .it (.string s), .it (.bool (!s.toList.isEmpty))] (by kernel_rfl) (by kernel_rfl) (fun _ => Below.refl _ _) (fun _ _ _ => below_tr) ?_
  refine RX.seqP_value (fun _ => Below.refl _ _) _ (by first | rfl | simp) (fun w' hw' hctx => ?_) ?_
  · have c0 : w'.cell? ⟨B, 0, none⟩ = some (.string s) := by rw [(below_tr hdr hw').cell (p := ⟨B, 0, none⟩) HLT.out]; exact HC.out
    go_simp
    try first | with_reducible rfl | simp
  simp only [Act.put, List.setIfInBounds_toArray, List.set_cons_zero, List.set_cons_succ]
  refine RX.seqP_value (fun _ => Below.refl _ _) _ (by first | rfl | simp) (fun w' hw' hctx => ?_) ?_
  · have c0 : w'.cell? ⟨B, 0, none⟩ = some (.string s) := by rw [(below_tr hdr hw').cell (p := ⟨B, 0, none⟩) HLT.out]; exact HC.out
    go_simp
    try first | with_reducible rfl | simp
  simp only [Act.put, List.setIfInBounds_toArray, List.set_cons_zero, List.set_cons_succ]
  refine RX.seqP_value (fun _ => Below.refl _ _) _ (by first | rfl | simp) (fun w' hw' hctx => by (go_simp); (try first | with_reducible rfl | simp)) ?_
  simp only [Act.put, List.setIfInBounds_toArray, List.set_cons_zero, List.set_cons_succ]
  refine RX.seqP_value (fun _ => Below.refl _ _) _ (by first | rfl | simp) (fun w' hw' hctx => by (go_simp); (try first | with_reducible rfl | simp)) ?_
  simp only [Act.put, List.setIfInBounds_toArray, List.set_cons_zero, List.set_cons_succ]
  refine RX.seqP_value (fun _ => Below.refl _ _) _ (by first | rfl | simp) (fun w' hw' hctx => by (go_simp); (try first | with_reducible rfl | simp)) ?_
  simp only [Act.put, List.setIfInBounds_toArray, List.set_cons_zero, List.set_cons_succ]
  refine RX.seqP_nil (fun W1 hR hctx _ => ?_)
  have hv1 := below_tr hdr hR
  clear hctx hR
  have HJ1 := Lib.hid (HT.out.old _ _ _ HJ.out hv1)
  clear hv1
  gi_wp2_with fail
  have HS0 : Hid (∃ m, m = !s.toList.isEmpty ∧ Going s s m []) := Lib.hid ⟨_, rfl, Going.start s hs⟩
  obtain ⟨m0, hm0, hg0⟩ := HS0.out
  rw [← hm0]
  have HG0 := Lib.hid hg0
  clear HS0 hm0 hg0 hc
  gi_loopw [3, 4] (fun rest more wr => ∃ (r : ByteArray) (m : Bool) (L : List Val), rest = .string r ∧ more = .bool m ∧ Hid (Going s r m L) ∧ Hid (J L wr)) (fun rest more _ => msr rest more)
  case atStart => exact ⟨s, m0, [], rfl, rfl, HG0, HJ1⟩
  case round =>
    obtain ⟨r, m, L, rfl, rfl, HG, HJr⟩ := hrel
    clear HG0 HJ1
    cases m
    · gi_wp2_with fail
      go_end0
      exact ⟨⟨_, rfl⟩, .inl ⟨L, HG.out.done rfl, HJr.out⟩⟩
    · obtain ⟨p, r', b, hcut⟩ := CutS.exists r
      have hsz := HG.out.small rfl
      have hcon := fun W => cut_is r p r' b (by omega) hcut W
      have HCUT := Lib.hid hcut
      have HSZ := Lib.hid hsz
      clear hcut hsz
      gi_wp2_with fail
      refine ⟨trivial, (callsIn_wide.2 (hcon _)).mono ?_⟩
      rintro e W2 ⟨rfl, hb2⟩
      have HJ2 := Lib.hid (HT.out.old _ _ _ HJr.out hb2)
      have hpz := HCUT.out.part_size
      cases hv : parV p.data.toList with
      | none =>
        obtain ⟨fn, tmps, assign, body, hy, hR⟩ := HT.out.no L p W2 HJ2.out (by have := HSZ.out; omega) (by have := HSZ.out; omega) hv
        have HN := Lib.hid (HG.out.bad rfl HCUT.out hv)
        clear hcon hb2 hpz hv
        gi_wp2_with fail
        refine hR.mono ?_
        rintro e W3 ⟨rfl, hS3⟩
        gi_wp2_with fail
        exact bodyPost_ret (results_none rfl _ _ _) rfl ⟨⟨_, rfl⟩, .inr ⟨HN.out, hS3⟩⟩
      | some v =>
        obtain ⟨fn, tmps, assign, body, hy, hR⟩ := HT.out.yes L p v W2 HJ2.out (by have := HSZ.out; omega) (by have := HSZ.out; omega) hv
        have HN := Lib.hid (HG.out.more rfl HCUT.out hv)
        clear hcon hb2 hpz hv
        gi_wp2_with fail
        refine hR.mono ?_
        rintro e W3 ⟨rfl, hJ3⟩
        gi_wp2_with fail
        go_roundw
        case rel => exact ⟨r', b, L ++ [v], rfl, rfl, Lib.hid HN.out.1, Lib.hid hJ3⟩
        case measure => exact HN.out.2
end
end Go.Proofs.YtoglaibcmfjclaaDoor
