/-
  The document's own Parse of a row.
-/
import Derived.Test.YtoglaibcmfjclaaDoorWRef
import Derived.Test.YtoglaibcmfjclaaDoorWParse
namespace Go.Proofs.YtoglaibcmfjclaaDoor
open Go.RowKit

theorem get_byte (s : ByteArray) (i : Nat) (_ : i < s.data.toList.length) (h2 : i < s.size) : s.data.toList[i] = s[i] := rfl

theorem byte_eq (x : UInt8) (c : Nat) (hc : c < 256) : ((x.toNat : Int) == (c : Int)) = decide (x = UInt8.ofNat c) := by
  rw [Bool.eq_iff_iff, beq_iff_eq, decide_eq_true_eq]
  constructor
  · intro e
    have : x.toNat = c := by omega
    rw [← this, UInt8.ofNat_toNat]
  · rintro rfl
    rw [UInt8.toNat_ofNat']
    omega

/-- Where the inner loop ends. -/
structure EndAt (s : ByteArray) (n a e : Nat) : Prop where
  le : a ≤ e
  en : e ≤ n
  cut1 : (cutG false (restL s.data.toList n a)).1 = (s.extract a e).data.toList
  cut2 : (cutG false (restL s.data.toList n a)).2 = if e = n then none else some (restL s.data.toList n (e + 2))
  two : e < n → e + 2 ≤ n

theorem ext_mid (s : ByteArray) (a e : Nat) : (s.extract a e).data.toList = (s.data.toList.drop a).take (e - a) := by
  have := Lib.extract_toList s a e
  rw [ByteArray.toList_eq] at this
  rw [this]

theorem endAt_last {s : ByteArray} {n a i : Nat} (h : s.data.toList.length = n + 1) (hi : a + i = n) {q : Bool} (hc : CutI (restL s.data.toList n a) q i) : EndAt s n a (a + i) := by
  have hl : i = (restL s.data.toList n a).length := by rw [rest_len h]; omega
  rw [hl] at hc
  have := hc.last
  refine ⟨by omega, by omega, ?_, ?_, fun h => by omega⟩
  · rw [this, ext_mid]
    show restL s.data.toList n a = _
    unfold restL
    rw [show n - a = a + i - a by omega]
  · rw [this, if_pos hi]

theorem endAt_sep {s : ByteArray} {n a i : Nat} (h : s.data.toList.length = n + 1) (hi : a + i < n) (hc : CutI (restL s.data.toList n a) false i) (hp : Lib.hasPrefix (restL s.data.toList n (a + i)) [44, 32] = true) : EndAt s n a (a + i) := by
  rw [← rest_drop] at hp
  obtain ⟨h1, h2⟩ := hc.sep hp
  have hlen : (restL s.data.toList n a).length = n - a := rest_len h
  rw [hlen] at h2
  refine ⟨by omega, by omega, ?_, ?_, fun _ => by omega⟩
  · rw [h1, ext_mid, rest_take (by omega), show a + i - a = i by omega]
  · rw [h1, if_neg (by omega)]
    show some _ = _
    rw [rest_drop]
    rfl

/-- What is read when the inner loop has ended. -/
theorem goR_end_bad {s : ByteArray} {n a e k : Nat} {acc : List Val} (h : s.data.toList.length = n + 1) (ha : a < n) (he : EndAt s n a e) (hv : parV (s.extract a e).data.toList = none) : goR (k + 1) acc (restL s.data.toList n a) = none :=
  goR_bad (by rw [rest_cons h ha]; simp) (by rw [he.cut1]; exact hv)

theorem goR_end_more {s : ByteArray} {n a e k : Nat} {acc : List Val} {v : Val} (h : s.data.toList.length = n + 1) (ha : a < n) (he : EndAt s n a e) (hv : parV (s.extract a e).data.toList = some v) : goR (k + 2) acc (restL s.data.toList n a) = goR (k + 1) (acc ++ [v]) (restL s.data.toList n (e + 2)) := by
  have hne : restL s.data.toList n a ≠ [] := by rw [rest_cons h ha]; simp
  by_cases hen : e = n
  · rw [goR_last hne (by rw [he.cut1]; exact hv) (by rw [he.cut2, if_pos hen]), rest_end (by omega), goR_nil]
  · rw [goR_more hne (by rw [he.cut1]; exact hv) (by rw [he.cut2, if_neg hen])]


theorem hasP_of (s : ByteArray) (h : 0 < s.size) : Lib.hasPrefix s.data.toList [40] = ((s[0].toNat : Int) == 40) := by
  rw [show (40 : Int) = ((40 : Nat) : Int) from rfl, byte_eq _ 40 (by decide)]
  have e : s.data.toList = s[0] :: s.data.toList.drop 1 := by
    have h2 : 0 < s.data.toList.length := by simpa using h
    have := List.drop_eq_getElem_cons h2
    rw [List.drop_zero] at this
    exact this
  rw [e, Bool.eq_iff_iff, decide_eq_true_eq]
  simp [Lib.hasPrefix]
  exact ⟨fun x => x.symm, fun x => x.symm⟩

theorem hasS_of (s : ByteArray) (n : Nat) (h : s.size = n + 1) (hn : 1 ≤ n) : Lib.hasSuffix (s.data.toList.drop 1) [41] = ((s[n].toNat : Int) == 41) := by
  rw [show (41 : Int) = ((41 : Nat) : Int) from rfl, byte_eq _ 41 (by decide)]
  have hl : s.data.toList.length = n + 1 := h
  have e : s.data.toList.drop 1 = (s.data.toList.drop 1).take (n - 1) ++ [s[n]] := by
    have h1 := (List.take_append_drop (n - 1) (s.data.toList.drop 1)).symm
    have h2 : (s.data.toList.drop 1).drop (n - 1) = [s[n]] := by
      rw [List.drop_drop, show 1 + (n - 1) = n by omega, List.drop_eq_getElem_cons (by omega : n < s.data.toList.length), List.drop_eq_nil_of_le (by omega : s.data.toList.length ≤ n + 1)]
      rfl
    rw [h2] at h1
    exact h1
  rw [e, Bool.eq_iff_iff, decide_eq_true_eq]
  unfold Lib.hasSuffix
  rw [List.isSuffixOf_iff_suffix]
  constructor
  · rintro ⟨p, hp⟩
    have := List.append_inj_right' hp rfl
    simp at this
    exact this.symm
  · intro hx
    rw [hx]
    exact List.suffix_append _ _

/-- Not between round brackets. -/
theorem rowP_open {s : ByteArray} (h : s.size < 2 ∨ (2 ≤ s.size ∧ ((∃ h : 0 < s.size, ((s[0].toNat : Int) != 40) = true) ∨ ∃ h : s.size - 1 < s.size, ((s[s.size - 1].toNat : Int) != 41) = true))) : rowP s.data.toList = none := by
  have hl : s.data.toList.length = s.size := rfl
  unfold rowP
  rw [if_neg]
  rintro ⟨h1, h2⟩
  rcases h with h | ⟨h3, ⟨h, h4⟩ | ⟨h, h4⟩⟩
  · have hx := suffix_one h2
    have := congrArg List.length hx
    simp only [List.length_drop, List.length_append, List.length_cons, List.length_nil] at this
    omega
  · rw [hasP_of s h] at h1
    simp only [bne, h1] at h4
    cases h4
  · rw [hasS_of s (s.size - 1) (by omega) (by omega)] at h2
    simp only [bne, h2] at h4
    cases h4

set_option maxRecDepth 100000 in
set_option maxHeartbeats 4000000 in
theorem rprow_short (s : ByteArray) (h : s.size < 2) (w : World) :
    Calls Tryd.prog 25 #[.string s] w fun e w' => e = .returned (.tuple #[.slice none 0 0, .int .i64 4]) ∧ Below w.heap.size w w' := by
  have hz : (s.size : Int) < 2 := by omega
  go_enter Tryd.func25, Tryd.ntmps25
  go_wp2_with fail
  go_ret2
  exact ⟨rfl, Below.refl _ _⟩

set_option maxRecDepth 100000 in
set_option maxHeartbeats 4000000 in
theorem rprow_first (s : ByteArray) (h : 2 ≤ s.size) (hs : s.size ≤ 3000) (hz0 : 0 < s.size) (hc : ((s[0].toNat : Int) != 40) = true) (w : World) :
    Calls Tryd.prog 25 #[.string s] w fun e w' => e = .returned (.tuple #[.slice none 0 0, .int .i64 4]) ∧ Below w.heap.size w w' := by
  have hz : ¬ (s.size : Int) < 2 := by omega
  go_enter Tryd.func25, Tryd.ntmps25
  go_wp2_with fail
  go_ret2
  exact ⟨rfl, Below.refl _ _⟩

set_option maxRecDepth 100000 in
set_option maxHeartbeats 4000000 in
theorem rprow_last (s : ByteArray) (h : 2 ≤ s.size) (hs : s.size ≤ 3000) (hz0 : 0 < s.size) (hc : ((s[0].toNat : Int) != 40) = false) (hz1 : s.size - 1 < s.size) (hc1 : ((s[s.size - 1].toNat : Int) != 41) = true) (w : World) :
    Calls Tryd.prog 25 #[.string s] w fun e w' => e = .returned (.tuple #[.slice none 0 0, .int .i64 4]) ∧ Below w.heap.size w w' := by
  have hz : ¬ (s.size : Int) < 2 := by omega
  go_enter Tryd.func25, Tryd.ntmps25
  go_wp2_with fail
  go_ret2
  exact ⟨rfl, Below.refl _ _⟩

end Go.Proofs.YtoglaibcmfjclaaDoor
