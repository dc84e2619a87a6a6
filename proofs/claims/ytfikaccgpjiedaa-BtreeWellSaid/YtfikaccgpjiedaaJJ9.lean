/-
  Entries (a key and a number) and their order (stage 7).
-/
import Derived.Test.YtfikaccgpjiedaaJJ7
import Derived.Test.YtfikaccgpjiedaaJBMem
import Derived.Test.YtfikaccgpjiedaaJBList
import Derived.Test.YtfikaccgpjiedaaJJ1
import Derived.Lib.Hide
import Derived.Deep.QuietTactic
import Derived.BigQuiet
namespace Go.Proofs.Ytfikaccgpjiedaa

def cmpE (a b : Ent) : Int := lex (cmpL a.key b.key) (cmpI a.id b.id)

theorem cmpE_tri (a b c : Ent) : Tri (cmpE a b) (cmpE b c) (cmpE a c) := tri_lex (cmpL_tri _ _ _) (tri_cmpI _ _ _)

theorem cmpE_neg (a b : Ent) : cmpE b a = -cmpE a b := by
  unfold cmpE
  rw [cmpL_neg a.key b.key, cmpI_neg a.id b.id, lex_neg]

theorem cmpE_zero (a b : Ent) : cmpE a b = 0 ↔ a = b := by
  obtain ⟨k, i⟩ := a
  obtain ⟨k', i'⟩ := b
  have h1 := cmpL_zero k k'
  have h2 := cmpI_zero i i'
  simp only [cmpE, lex, Ent.mk.injEq]
  split
  · next h => exact ⟨fun e => absurd e h, fun e => absurd (h1.mpr e.1) h⟩
  · next h =>
    have h' : cmpL k k' = 0 := Classical.not_not.mp h
    exact ⟨fun e => ⟨h1.mp h', h2.mp e⟩, fun e => h2.mpr e.2⟩

theorem cmpE_vals (a b : Ent) : cmpE a b = -1 ∨ cmpE a b = 0 ∨ cmpE a b = 1 := (cmpE_tri a b a).1

def ltE (a b : Ent) : Bool := decide (cmpE a b = -1)

theorem ltE_iff {a b : Ent} : ltE a b = true ↔ cmpE a b = -1 := by simp [ltE]
theorem ltE_neg {a b : Ent} : ltE a b = true ↔ cmpE a b < 0 := by
  rw [ltE_iff]
  rcases cmpE_vals a b with h | h | h <;> rw [h] <;> decide
theorem ltE_pos {a b : Ent} : ltE b a = true ↔ 0 < cmpE a b := by
  rw [ltE_iff, cmpE_neg a b]
  rcases cmpE_vals a b with h | h | h <;> rw [h] <;> decide

/-- The order of entries is one. -/
theorem sloE : SLO ltE where
  irrefl a := by
    cases h : ltE a a with
    | false => rfl
    | true => rw [ltE_iff, (cmpE_zero a a).mpr rfl] at h; omega
  trans {a b c} h g := by
    rw [ltE_iff] at *
    obtain ⟨_, _, _, _, _, h6⟩ := cmpE_tri a b c
    rw [h6 (by rw [h, g]), h]
  tri a b := by
    rcases cmpE_vals a b with h | h | h
    · exact .inl (ltE_iff.mpr h)
    · exact .inr (.inl ((cmpE_zero a b).mp h))
    · exact .inr (.inr (ltE_pos.mpr (by omega)))

/-- Is a key ahead of another one? -/
def ltK (a b : List Val) : Bool := decide (cmpL a b < 0)

theorem ltK_of {a b : Ent} (h : ltE a b = true) : ltK b.key a.key = false := by
  rw [ltE_iff] at h
  simp only [cmpE, lex] at h
  unfold ltK
  rw [cmpL_neg a.key b.key, decide_eq_false_iff_not]
  split at h <;> omega

theorem ltK_trans {a b c : List Val} (h : ltK a b = true) (g : ltK b c = true ∨ b = c) : ltK a c = true := by
  rcases g with g | rfl
  · simp only [ltK, decide_eq_true_eq] at *
    obtain ⟨h1, h2, h3, _, _, h6⟩ := cmpL_tri a b c
    have e1 : cmpL a b = -1 := by omega
    have e2 : cmpL b c = -1 := by omega
    rw [h6 (by rw [e1, e2])]
    omega
  · exact h

/-- What is ahead of a key goes down. -/
theorem ltK_down {a b : Ent} {k : List Val} (h : ltE a b = true) (g : ltK b.key k = true) : ltK a.key k = true := by
  rw [ltE_iff] at h
  simp only [cmpE, lex] at h
  split at h
  · exact ltK_trans (by simp only [ltK, decide_eq_true_eq]; omega) (.inl g)
  · next hz =>
    have : a.key = b.key := (cmpL_zero _ _).mp (Classical.not_not.mp hz)
    rw [this]
    exact g

/-- Walk: whose keys are not ahead of one, and ahead of another one. -/
def walkE (lo hi : List Val) (l : List Ent) : List Ent := l.filter fun e => !ltK e.key lo && (hi.isEmpty || ltK e.key hi)

theorem walk_two {l : List Ent} (h : Srt ltE l) (k : List Val) (hk : k ≠ []) : walkE [] k l ++ walkE k [] l = l := by
  have e1 : walkE [] k l = l.filter fun e => ltK e.key k := by
    refine List.filter_congr fun e _ => ?_
    have : ltK e.key [] = false := by
      unfold ltK
      cases e.key with
      | nil => simp [cmpL]
      | cons x l => simp [cmpL]
    rw [this]
    cases k with
    | nil => exact absurd rfl hk
    | cons x k => simp
  have e2 : walkE k [] l = l.filter fun e => !ltK e.key k := by
    refine List.filter_congr fun e _ => ?_
    simp
  rw [e1, e2]
  exact two_parts (fun e : Ent => ltK e.key k) h fun a b hab hb => ltK_down hab hb

theorem walk_same (l : List Ent) (k : List Val) (hk : k ≠ []) : walkE k k l = [] := by
  rw [walkE, List.filter_eq_nil_iff]
  intro e _
  cases k with
  | nil => exact absurd rfl hk
  | cons x k => cases h : ltK e.key (x :: k) <;> simp

theorem walk_all (l : List Ent) : walkE [] [] l = l := by
  rw [walkE, List.filter_eq_self]
  intro e _
  have : ltK e.key [] = false := by
    unfold ltK
    cases e.key with
    | nil => simp [cmpL]
    | cons x l => simp [cmpL]
  rw [this]
  rfl

end Go.Proofs.Ytfikaccgpjiedaa

/-
  Two values in two new blocks; a text is its bytes.
-/
namespace Go.Proofs.Ytfikaccgpjiedaa
open Go.RowKit

theorem two_boxes (w : World) (k n hi : Int) (t : ByteArray) (k' n' hi' : Int) (t' : ByteArray) (T : TypeId) : ∃ W : World, W = (w.alloc (.cells #[.int .u8 k, .int .i64 n, .int .i64 hi, .string t] T)).alloc (.cells #[.int .u8 k', .int .i64 n', .int .i64 hi', .string t'] T) ∧
    Boxed W w.heap.size k n hi t ∧ Boxed W (w.heap.size + 1) k' n' hi' t' ∧ Below w.heap.size w W := by
  refine ⟨_, rfl, (Boxed.new w k n hi t T).below (Below.allocs _ _), ?_, ((Below.refl _ _).alloc (Nat.le_refl _) _).alloc (by simp) _⟩
  have := Boxed.new (w.alloc (.cells #[.int .u8 k, .int .i64 n, .int .i64 hi, .string t] T)) k' n' hi' t' T
  rw [show (w.alloc (.cells #[.int .u8 k, .int .i64 n, .int .i64 hi, .string t] T)).heap.size = w.heap.size + 1 by simp] at this
  exact this

theorem ba_eta (t : ByteArray) : (⟨t.data.toList.toArray⟩ : ByteArray) = t := by cases t; simp


end Go.Proofs.Ytfikaccgpjiedaa

/-
  What the document's own covenantref01.Compare answers, as walks over this translation.
-/
namespace Go.Proofs.Ytfikaccgpjiedaa
open Go.RowKit

theorem bl_same_head : ∀ (i : Nat) (a b : List UInt8), a.take i = b.take i → i ≤ a.length → i ≤ b.length → Op.bytesLess a b = Op.bytesLess (a.drop i) (b.drop i)
  | 0, _, _, _, _, _ => rfl
  | i + 1, [], _, _, h, _ => by simp at h
  | i + 1, _ :: _, [], _, _, h => by simp at h
  | i + 1, x :: a, y :: b, h, h1, h2 => by
    simp only [List.take_succ_cons, List.cons.injEq] at h
    obtain ⟨rfl, h⟩ := h
    rw [List.drop_succ_cons, List.drop_succ_cons, ← bl_same_head i a b h (by simpa using h1) (by simpa using h2)]
    simp [Op.bytesLess]

theorem bl_at (a b : List UInt8) (i : Nat) (h : a.take i = b.take i) (h1 : i < a.length) (h2 : i < b.length) : Op.bytesLess a b = (decide (a[i] < b[i]) || (a[i] == b[i] && Op.bytesLess (a.drop (i + 1)) (b.drop (i + 1)))) := by
  rw [bl_same_head i a b h (by omega) (by omega), List.drop_eq_getElem_cons h1, List.drop_eq_getElem_cons h2]
  simp [Op.bytesLess]

theorem get_same (t : ByteArray) (i : Nat) (_ : i < t.data.toList.length) (h2 : i < t.size) : t.data.toList[i] = t[i] := rfl

theorem cmpS_lt_at (s t : ByteArray) (i : Nat) (h : s.data.toList.take i = t.data.toList.take i) (h1 : i < s.data.toList.length) (h2 : i < t.data.toList.length) (hlt : s.data.toList[i].toNat < t.data.toList[i].toNat) : cmpS s t = -1 := by
  apply cmpS_lt
  rw [ByteArray.toList_eq, ByteArray.toList_eq, bl_at _ _ i h h1 h2, decide_eq_true (UInt8.lt_iff_toNat_lt.2 hlt)]
  rfl
theorem cmpS_gt_at (s t : ByteArray) (i : Nat) (h : s.data.toList.take i = t.data.toList.take i) (h1 : i < s.data.toList.length) (h2 : i < t.data.toList.length) (hlt : t.data.toList[i].toNat < s.data.toList[i].toNat) : cmpS s t = 1 := by
  apply cmpS_gt
  rw [ByteArray.toList_eq, ByteArray.toList_eq, bl_at _ _ i h.symm h2 h1, decide_eq_true (UInt8.lt_iff_toNat_lt.2 hlt)]
  rfl
theorem take_next (a b : List UInt8) (i : Nat) (h : a.take i = b.take i) (h1 : i < a.length) (h2 : i < b.length) (e : a[i].toNat = b[i].toNat) : a.take (i + 1) = b.take (i + 1) := by
  rw [List.take_succ_eq_append_getElem h1, List.take_succ_eq_append_getElem h2, h, UInt8.toNat_inj.1 e]
theorem cmpS_end_lt (s t : ByteArray) (i : Nat) (h : s.data.toList.take i = t.data.toList.take i) (h1 : i = s.data.toList.length) (h2 : i < t.data.toList.length) : cmpS s t = -1 := by
  apply cmpS_lt
  rw [ByteArray.toList_eq, ByteArray.toList_eq, bl_same_head i _ _ h (by omega) (by omega), List.drop_of_length_le (by omega), List.drop_eq_getElem_cons h2]
  rfl
theorem cmpS_end_gt (s t : ByteArray) (i : Nat) (h : s.data.toList.take i = t.data.toList.take i) (h1 : i < s.data.toList.length) (h2 : i = t.data.toList.length) : cmpS s t = 1 := by
  apply cmpS_gt
  rw [ByteArray.toList_eq, ByteArray.toList_eq, bl_same_head i _ _ h.symm (by omega) (by omega), List.drop_of_length_le (by omega), List.drop_eq_getElem_cons h1]
  rfl
theorem cmpS_end_eq (s t : ByteArray) (i : Nat) (h : s.data.toList.take i = t.data.toList.take i) (h1 : i = s.data.toList.length) (h2 : i = t.data.toList.length) : cmpS s t = 0 := by
  apply cmpS_same
  rw [ByteArray.toList_eq, ByteArray.toList_eq]
  rw [List.take_of_length_le (by omega), List.take_of_length_le (by omega)] at h
  exact h

set_option maxRecDepth 100000 in
set_option maxHeartbeats 4000000 in
theorem rcmp_k_lt (k n hi : Int) (t : ByteArray) (k' n' hi' : Int) (t' : ByteArray) (h : k < k') (w : World) :
    Calls Try.prog 36 #[.agg #[.int .u8 k, .int .i64 n, .int .i64 hi, .string t], .agg #[.int .u8 k', .int .i64 n', .int .i64 hi', .string t']] w fun e w' => e = .returned (.int .i64 (-1)) ∧ Below w.heap.size w w' := by
  have e : (k != k') = true := by simp; omega
  have hb0 : Below w.heap.size w ((w.alloc (.cells #[.int .u8 k, .int .i64 n, .int .i64 hi, .string t] 66)).alloc (.cells #[.int .u8 k', .int .i64 n', .int .i64 hi', .string t'] 66)) := ((Below.refl _ _).alloc (Nat.le_refl _) _).alloc (by simp) _
  go_enter Try.func36, Try.ntmps36
  go_wp2_with fail
  go_ret
  exact ⟨rfl, hb0⟩

set_option maxRecDepth 100000 in
set_option maxHeartbeats 4000000 in
theorem rcmp_k_gt (k n hi : Int) (t : ByteArray) (k' n' hi' : Int) (t' : ByteArray) (h : k' < k) (w : World) :
    Calls Try.prog 36 #[.agg #[.int .u8 k, .int .i64 n, .int .i64 hi, .string t], .agg #[.int .u8 k', .int .i64 n', .int .i64 hi', .string t']] w fun e w' => e = .returned (.int .i64 1) ∧ Below w.heap.size w w' := by
  have e : (k != k') = true := by simp; omega
  have e2 : ¬ k < k' := by omega
  have hb0 : Below w.heap.size w ((w.alloc (.cells #[.int .u8 k, .int .i64 n, .int .i64 hi, .string t] 66)).alloc (.cells #[.int .u8 k', .int .i64 n', .int .i64 hi', .string t'] 66)) := ((Below.refl _ _).alloc (Nat.le_refl _) _).alloc (by simp) _
  go_enter Try.func36, Try.ntmps36
  go_wp2_with fail
  go_ret
  exact ⟨rfl, hb0⟩

set_option maxRecDepth 100000 in
set_option maxHeartbeats 4000000 in
theorem rcmp_n_lt (k n hi : Int) (t : ByteArray) (k' n' hi' : Int) (t' : ByteArray) (h0 : k = k') (h : n < n') (w : World) :
    Calls Try.prog 36 #[.agg #[.int .u8 k, .int .i64 n, .int .i64 hi, .string t], .agg #[.int .u8 k', .int .i64 n', .int .i64 hi', .string t']] w fun e w' => e = .returned (.int .i64 (-1)) ∧ Below w.heap.size w w' := by
  have e0 : (k != k') = false := by simp [h0]
  clear h0
  have e : (n != n') = true := by simp; omega
  have hb0 : Below w.heap.size w ((w.alloc (.cells #[.int .u8 k, .int .i64 n, .int .i64 hi, .string t] 66)).alloc (.cells #[.int .u8 k', .int .i64 n', .int .i64 hi', .string t'] 66)) := ((Below.refl _ _).alloc (Nat.le_refl _) _).alloc (by simp) _
  go_enter Try.func36, Try.ntmps36
  go_wp2_with fail
  go_ret
  exact ⟨rfl, hb0⟩

set_option maxRecDepth 100000 in
set_option maxHeartbeats 4000000 in
theorem rcmp_n_gt (k n hi : Int) (t : ByteArray) (k' n' hi' : Int) (t' : ByteArray) (h0 : k = k') (h : n' < n) (w : World) :
    Calls Try.prog 36 #[.agg #[.int .u8 k, .int .i64 n, .int .i64 hi, .string t], .agg #[.int .u8 k', .int .i64 n', .int .i64 hi', .string t']] w fun e w' => e = .returned (.int .i64 1) ∧ Below w.heap.size w w' := by
  have e0 : (k != k') = false := by simp [h0]
  clear h0
  have e : (n != n') = true := by simp; omega
  have e2 : ¬ n < n' := by omega
  have hb0 : Below w.heap.size w ((w.alloc (.cells #[.int .u8 k, .int .i64 n, .int .i64 hi, .string t] 66)).alloc (.cells #[.int .u8 k', .int .i64 n', .int .i64 hi', .string t'] 66)) := ((Below.refl _ _).alloc (Nat.le_refl _) _).alloc (by simp) _
  go_enter Try.func36, Try.ntmps36
  go_wp2_with fail
  go_ret
  exact ⟨rfl, hb0⟩

set_option maxRecDepth 100000 in
set_option maxHeartbeats 4000000 in
theorem rcmp_h_lt (k n hi : Int) (t : ByteArray) (k' n' hi' : Int) (t' : ByteArray) (h0 : k = k') (h1 : n = n') (h : hi < hi') (w : World) :
    Calls Try.prog 36 #[.agg #[.int .u8 k, .int .i64 n, .int .i64 hi, .string t], .agg #[.int .u8 k', .int .i64 n', .int .i64 hi', .string t']] w fun e w' => e = .returned (.int .i64 (-1)) ∧ Below w.heap.size w w' := by
  have e0 : (k != k') = false := by simp [h0]
  clear h0
  have e1 : (n != n') = false := by simp [h1]
  clear h1
  have e : (hi != hi') = true := by simp; omega
  have hb0 : Below w.heap.size w ((w.alloc (.cells #[.int .u8 k, .int .i64 n, .int .i64 hi, .string t] 66)).alloc (.cells #[.int .u8 k', .int .i64 n', .int .i64 hi', .string t'] 66)) := ((Below.refl _ _).alloc (Nat.le_refl _) _).alloc (by simp) _
  go_enter Try.func36, Try.ntmps36
  go_wp2_with fail
  go_ret
  exact ⟨rfl, hb0⟩

set_option maxRecDepth 100000 in
set_option maxHeartbeats 4000000 in
theorem rcmp_h_gt (k n hi : Int) (t : ByteArray) (k' n' hi' : Int) (t' : ByteArray) (h0 : k = k') (h1 : n = n') (h : hi' < hi) (w : World) :
    Calls Try.prog 36 #[.agg #[.int .u8 k, .int .i64 n, .int .i64 hi, .string t], .agg #[.int .u8 k', .int .i64 n', .int .i64 hi', .string t']] w fun e w' => e = .returned (.int .i64 1) ∧ Below w.heap.size w w' := by
  have e0 : (k != k') = false := by simp [h0]
  clear h0
  have e1 : (n != n') = false := by simp [h1]
  clear h1
  have e : (hi != hi') = true := by simp; omega
  have e2 : ¬ hi < hi' := by omega
  have hb0 : Below w.heap.size w ((w.alloc (.cells #[.int .u8 k, .int .i64 n, .int .i64 hi, .string t] 66)).alloc (.cells #[.int .u8 k', .int .i64 n', .int .i64 hi', .string t'] 66)) := ((Below.refl _ _).alloc (Nat.le_refl _) _).alloc (by simp) _
  go_enter Try.func36, Try.ntmps36
  go_wp2_with fail
  go_ret
  exact ⟨rfl, hb0⟩

set_option maxRecDepth 100000 in
set_option maxHeartbeats 4000000 in
theorem rcmp_t (k n hi : Int) (t : ByteArray) (k' n' hi' : Int) (t' : ByteArray) (h0 : k = k') (h1 : n = n') (h2 : hi = hi') (hz : t.size ≤ 140737488351232) (hz' : t'.size ≤ 140737488351232) (w : World) :
    Calls Try.prog 36 #[.agg #[.int .u8 k, .int .i64 n, .int .i64 hi, .string t], .agg #[.int .u8 k', .int .i64 n', .int .i64 hi', .string t']] w fun e w' => e = .returned (.int .i64 (cmpS t t')) ∧ Below w.heap.size w w' := by
  obtain ⟨W, hW, B0, C0, hbW⟩ := two_boxes w k n hi t k' n' hi' t' 66
  obtain ⟨g, hgg⟩ : ∃ g, w.heap.size = g := ⟨_, rfl⟩
  rw [hgg] at B0 C0
  have e0 : (k != k') = false := by simp [h0]
  clear h0
  have e1 : (n != n') = false := by simp [h1]
  clear h1
  have e2 : (hi != hi') = false := by simp [h2]
  clear h2
  go_enter Try.func36, Try.ntmps36
  go_wp2_with fail
  rw [← hW]
  clear hW hgg
  have lt0 : t.data.toList.length = t.size := by simp
  have lt1 : t'.data.toList.length = t'.size := by simp
  have L0 := Lib.hid lt0
  have L1 := Lib.hid lt1
  clear lt0 lt1
  go_loopw [5] (fun c wr => ∃ i : Nat, i ≤ t.size ∧ i ≤ t'.size ∧ c = .int .i64 i ∧ t.data.toList.take i = t'.data.toList.take i ∧ Below W.heap.size W wr) (fun c _ => t.size - (intOf c).toNat)
  case atStart => exact ⟨0, by omega, by omega, rfl, rfl, Below.refl _ _⟩
  case round =>
    obtain ⟨i, h1, h2, rfl, htk, hbr⟩ := hrel
    have HTK := Lib.hid htk
    clear htk
    have hwr := below_tr hbW hbr
    have Br := B0.below hbr
    have Cr := C0.below hbr
    obtain ⟨c0, c1, c2, c3, c4⟩ := Br
    obtain ⟨d0, d1, d2, d3, d4⟩ := Cr
    by_cases g1 : i < t.size
    · by_cases g2 : i < t'.size
      · have i0 : (0 : Int) ≤ (i : Int) := by omega
        have i1 : (i : Int) < (t.size : Int) := by omega
        have i2 : (i : Int) < (t'.size : Int) := by omega
        have l1 : i < t.data.toList.length := by rw [L0.out]; exact g1
        have l2 : i < t'.data.toList.length := by rw [L1.out]; exact g2
        have M1 := Lib.hid l1
        have M2 := Lib.hid l2
        clear l1 l2
        by_cases p1 : t[i].toNat < t'[i].toNat
        · go_wp2_with fail
          go_quiet (fail)
          go_wp2_with fail
          go_ret
          refine ⟨?_, below_drewN hwr _⟩
          rw [cmpS_lt_at t t' i HTK.out M1.out M2.out (by rw [get_same t i M1.out g1, get_same t' i M2.out g2]; exact p1)]
          rfl
        · by_cases p2 : t'[i].toNat < t[i].toNat
          · go_wp2_with fail
            go_quiet (fail)
            go_wp2_with fail
            go_quiet (fail)
            go_wp2_with fail
            go_ret
            refine ⟨?_, below_drewN (below_drewN hwr _) _⟩
            rw [cmpS_gt_at t t' i HTK.out M1.out M2.out (by rw [get_same t i M1.out g1, get_same t' i M2.out g2]; exact p2)]
            rfl
          · go_wp2_with fail
            go_quiet (fail)
            go_wp2_with fail
            go_quiet (fail)
            go_wp2_with fail
            go_roundw
            case rel => exact ⟨i + 1, by omega, by omega, by go_num, take_next _ _ i HTK.out M1.out M2.out (by rw [get_same t i M1.out g1, get_same t' i M2.out g2]; omega), below_drewN hbr _⟩
            case measure => simp [intOf]; omega
      · have e : ¬ (i : Int) < (t'.size : Int) := by omega
        have e2 : (i : Int) < (t.size : Int) := by omega
        have e3 : ¬ (t.size : Int) < (t'.size : Int) := by omega
        have e4 : (t'.size : Int) < (t.size : Int) := by omega
        go_wp2_with fail
        go_ret
        refine ⟨?_, hwr⟩
        rw [cmpS_end_gt t t' i HTK.out (by rw [L0.out]; omega) (by rw [L1.out]; omega)]
        rfl
    · have e : ¬ (i : Int) < (t.size : Int) := by omega
      by_cases g2 : t.size < t'.size
      · have e2 : (t.size : Int) < (t'.size : Int) := by omega
        go_wp2_with fail
        go_ret
        refine ⟨?_, hwr⟩
        rw [cmpS_end_lt t t' i HTK.out (by rw [L0.out]; omega) (by rw [L1.out]; omega)]
        rfl
      · have e2 : ¬ (t.size : Int) < (t'.size : Int) := by omega
        have e3 : ¬ (t'.size : Int) < (t.size : Int) := by omega
        go_wp2_with fail
        go_ret
        refine ⟨?_, hwr⟩
        rw [cmpS_end_eq t t' i HTK.out (by rw [L0.out]; omega) (by rw [L1.out]; omega)]
        rfl

theorem rcompare_is (k n hi : Int) (t : ByteArray) (k' n' hi' : Int) (t' : ByteArray) (hz : t.size ≤ 140737488351232) (hz' : t'.size ≤ 140737488351232) (v : Int) (hv : cmpV k n hi t k' n' hi' t' = v) (w : World) :
    Calls Try.prog 36 #[.agg #[.int .u8 k, .int .i64 n, .int .i64 hi, .string t], .agg #[.int .u8 k', .int .i64 n', .int .i64 hi', .string t']] w fun e w' => e = .returned (.int .i64 v) ∧ Below w.heap.size w w' := by
  rw [← hv]
  unfold cmpV
  simp only [pick4_lex]
  have lz : ∀ a b : Int, a ≠ 0 → lex a b = a := fun a b h => by unfold lex; rw [if_pos h]
  have l0 : ∀ b : Int, lex 0 b = b := fun b => by unfold lex; rw [if_neg (by simp)]
  have lt : ∀ a b : Int, a < b → cmpI a b = -1 := fun a b h => by unfold cmpI; rw [if_pos h]
  have gt : ∀ a b : Int, b < a → cmpI a b = 1 := fun a b h => by unfold cmpI; rw [if_neg (by omega), if_pos h]
  rcases Int.lt_trichotomy k k' with h | h0 | h
  · rw [lt _ _ h, lz _ _ (by decide)]; exact rcmp_k_lt k n hi t k' n' hi' t' h w
  · rw [(cmpI_zero k k').2 h0, l0]
    rcases Int.lt_trichotomy n n' with h | h1 | h
    · rw [lt _ _ h, lz _ _ (by decide)]; exact rcmp_n_lt k n hi t k' n' hi' t' h0 h w
    · rw [(cmpI_zero n n').2 h1, l0]
      rcases Int.lt_trichotomy hi hi' with h | h2 | h
      · rw [lt _ _ h, lz _ _ (by decide)]; exact rcmp_h_lt k n hi t k' n' hi' t' h0 h1 h w
      · rw [(cmpI_zero hi hi').2 h2, l0]; exact rcmp_t k n hi t k' n' hi' t' h0 h1 h2 hz hz' w
      · rw [gt _ _ h, lz _ _ (by decide)]; exact rcmp_h_gt k n hi t k' n' hi' t' h0 h1 h w
    · rw [gt _ _ h, lz _ _ (by decide)]; exact rcmp_n_gt k n hi t k' n' hi' t' h0 h w
  · rw [gt _ _ h, lz _ _ (by decide)]; exact rcmp_k_gt k n hi t k' n' hi' t' h w


end Go.Proofs.Ytfikaccgpjiedaa

