/-
  What value.read and value.Parse answer, as walks over this translation.
-/
import Derived.Test.YtoglaibcmfjclaaDoorVRead
namespace Go.Proofs.YtoglaibcmfjclaaDoor
open Go.RowKit

/-- What is read: the four fields of a value, and whether there is one. -/
structure Rd where
  k : Int
  n : Int
  hi : Int
  t : List UInt8
  ok : Bool

def textR (l : List UInt8) : Rd :=
  if l.length < 2 ∨ Lib.hasSuffix l [39] = false then ⟨0, 0, 0, [], false⟩ else ⟨3, 0, 0, und ((l.drop 1).take (l.length - 2)), true⟩

def readR (l : List UInt8) : Rd :=
  if l = [110, 117, 108, 108] then ⟨0, 0, 0, [], true⟩
  else if l = [121, 101, 115] then ⟨2, 1, 0, [], true⟩
  else if l = [110, 111] then ⟨2, 0, 0, [], true⟩
  else if Lib.hasPrefix l [39] = true then
    textR l
  else if Lib.hasPrefix l [91] = true then ⟨4, numV (spanIn l).1, numV (spanIn l).2.1, [], spanOK l⟩
  else ⟨1, numV l, 0, [], numOK l⟩

def rdV (r : Rd) : Value := .tuple #[.agg #[.int .u8 r.k, .int .i64 r.n, .int .i64 r.hi, .string ⟨r.t.toArray⟩], .bool r.ok]

theorem readText_any (s : ByteArray) (h2 : s.size ≤ 100000) (w : World) (hg : Good w) :
    Calls Tryd.prog 66 #[.string s] w fun e w' => e = .returned (rdV (textR s.data.toList)) ∧ Below w.heap.size w w' := by
  have e : s.data.toList.length = s.size := by simp
  unfold textR
  by_cases h : s.size < 2
  · rw [if_pos (Or.inl (by omega))]
    exact readText_short s h w
  · cases hq : Lib.hasSuffix s.data.toList [39]
    · rw [if_pos (Or.inr rfl)]
      exact readText_open s (by omega) h2 hq w
    · rw [if_neg (by simp; omega)]
      exact readText_ok s (by omega) h2 hq w hg

set_option maxHeartbeats 400000 in
theorem read_null (w : World) :
    Calls Tryd.prog 58 #[.string ⟨#[110, 117, 108, 108]⟩] w fun e w' => e = .returned (rdV ⟨0, 0, 0, [], true⟩) ∧ Below w.heap.size w w' := by
  go_enter Tryd.func58, Tryd.ntmps58
  go_wp2_with fail
  refine bodyPost_ret (v := rdV ⟨0, 0, 0, [], true⟩) (by simp [results, Tryd.results58, go_sem, rdV]) rfl ⟨rfl, ?_⟩
  exact Below.allocs _ _

set_option maxHeartbeats 400000 in
theorem read_yes (w : World) :
    Calls Tryd.prog 58 #[.string ⟨#[121, 101, 115]⟩] w fun e w' => e = .returned (rdV ⟨2, 1, 0, [], true⟩) ∧ Below w.heap.size w w' := by
  go_enter Tryd.func58, Tryd.ntmps58
  go_wp2_with fail
  refine bodyPost_ret (v := rdV ⟨2, 1, 0, [], true⟩) (by simp [results, Tryd.results58, go_sem, rdV]) rfl ⟨rfl, ?_⟩
  exact Below.allocs _ _

set_option maxHeartbeats 400000 in
theorem read_no (w : World) :
    Calls Tryd.prog 58 #[.string ⟨#[110, 111]⟩] w fun e w' => e = .returned (rdV ⟨2, 0, 0, [], true⟩) ∧ Below w.heap.size w w' := by
  go_enter Tryd.func58, Tryd.ntmps58
  go_wp2_with fail
  refine bodyPost_ret (v := rdV ⟨2, 0, 0, [], true⟩) (by simp [results, Tryd.results58, go_sem, rdV]) rfl ⟨rfl, ?_⟩
  exact Below.allocs _ _

set_option maxHeartbeats 400000 in
theorem read_text (s : ByteArray) (h2 : s.size ≤ 100000) (n1 : (s.toList == [110, 117, 108, 108]) = false) (n2 : (s.toList == [121, 101, 115]) = false) (n3 : (s.toList == [110, 111]) = false) (hp : Lib.hasPrefix s.data.toList [39] = true) (w : World) (hg : Good w) :
    Calls Tryd.prog 58 #[.string s] w fun e w' => e = .returned (rdV (textR s.data.toList)) ∧ Below w.heap.size w w' := by
  have HP := Lib.hid hp
  clear hp
  have B0 := Boxed.new w 0 0 0 ⟨#[]⟩ 25
  have f0 : ∀ o, (w.alloc (.cells #[.int .u8 0, .int .i64 0, .int .i64 0, .string ⟨#[]⟩] 25)).frozen? ⟨w.heap.size, o, none⟩ = false := fun o => by simp
  have hg1 := hg.below (Below.allocs w (.cells #[.int .u8 0, .int .i64 0, .int .i64 0, .string ⟨#[]⟩] 25))
  go_enter Tryd.func58, Tryd.ntmps58
  go_wp2_with fail
  refine (Tryd.strings_HasPrefix s _ _).mono ?_
  rintro e w1 ⟨rfl, rfl⟩
  rw [show (⟨#[39]⟩ : ByteArray).data.toList = [39] from rfl, HP.out]
  go_wp2_with fail
  refine (readText_any s h2 _ hg1).mono ?_
  rintro e w1 ⟨rfl, hb⟩
  obtain ⟨r, hr⟩ : ∃ r : Rd, textR s.data.toList = r := ⟨_, rfl⟩
  rw [hr]
  have HR := Lib.hid hr
  clear hr
  obtain ⟨k, n, hi, t, ok⟩ := r
  unfold rdV
  have B1 := B0.below hb
  have f1 : ∀ o, w1.frozen? ⟨w.heap.size, o, none⟩ = false := fun o => by rw [hb.frozen B0.2.2.2.2]; exact f0 o
  obtain ⟨c0, c1, c2, c3, c4⟩ := B1
  have hbe := below_tr (Below.allocs w _) hb
  clear hg1 B0 f0 hb
  go_wp2_with fail
  refine bodyPost_ret (v := rdV ⟨k, n, hi, t, ok⟩) (by simp [results, Tryd.results58, go_sem, rdV, c0, c1, c2, c3]) rfl ⟨by rw [HR.out], ?_⟩
  exact (((hbe.setCell (Nat.le_refl _) _).setCell (Nat.le_refl _) _).setCell (Nat.le_refl _) _).setCell (Nat.le_refl _) _

set_option maxHeartbeats 400000 in
theorem read_span (s : ByteArray) (h2 : s.size ≤ 100000) (n1 : (s.toList == [110, 117, 108, 108]) = false) (n2 : (s.toList == [121, 101, 115]) = false) (n3 : (s.toList == [110, 111]) = false) (hp : Lib.hasPrefix s.data.toList [39] = false) (hp2 : Lib.hasPrefix s.data.toList [91] = true) (h1 : 1 ≤ s.size) (w : World) (hg : Good w) :
    Calls Tryd.prog 58 #[.string s] w fun e w' => e = .returned (rdV ⟨4, numV (spanIn s.data.toList).1, numV (spanIn s.data.toList).2.1, [], spanOK s.data.toList⟩) ∧ Below w.heap.size w w' := by
  have HP2 := Lib.hid hp2
  clear hp2
  have HP := Lib.hid hp
  clear hp
  have B0 := Boxed.new w 0 0 0 ⟨#[]⟩ 25
  have f0 : ∀ o, (w.alloc (.cells #[.int .u8 0, .int .i64 0, .int .i64 0, .string ⟨#[]⟩] 25)).frozen? ⟨w.heap.size, o, none⟩ = false := fun o => by simp
  have hg1 := hg.below (Below.allocs w (.cells #[.int .u8 0, .int .i64 0, .int .i64 0, .string ⟨#[]⟩] 25))
  go_enter Tryd.func58, Tryd.ntmps58
  go_wp2_with fail
  refine (Tryd.strings_HasPrefix s _ _).mono ?_
  rintro e w1 ⟨rfl, rfl⟩
  rw [show (⟨#[39]⟩ : ByteArray).data.toList = [39] from rfl, HP.out]
  go_wp2_with fail
  refine (Tryd.strings_HasPrefix s _ _).mono ?_
  rintro e w1 ⟨rfl, rfl⟩
  rw [show (⟨#[91]⟩ : ByteArray).data.toList = [91] from rfl, HP2.out]
  go_wp2_with fail
  refine (readSpan_any s h1 h2 _ hg1).mono ?_
  rintro e w1 ⟨rfl, hb⟩
  obtain ⟨n, hn⟩ : ∃ b, numV (spanIn s.data.toList).1 = b := ⟨_, rfl⟩
  obtain ⟨hi, hh⟩ : ∃ b, numV (spanIn s.data.toList).2.1 = b := ⟨_, rfl⟩
  obtain ⟨ok, ho⟩ : ∃ b, spanOK s.data.toList = b := ⟨_, rfl⟩
  rw [hn, hh, ho]
  have HN := Lib.hid hn
  have HH := Lib.hid hh
  have HO := Lib.hid ho
  clear hn hh ho
  have B1 := B0.below hb
  have f1 : ∀ o, w1.frozen? ⟨w.heap.size, o, none⟩ = false := fun o => by rw [hb.frozen B0.2.2.2.2]; exact f0 o
  obtain ⟨c0, c1, c2, c3, c4⟩ := B1
  have hbe := below_tr (Below.allocs w _) hb
  clear hg1 B0 f0 hb
  go_wp2_with fail
  refine bodyPost_ret (v := rdV ⟨4, n, hi, [], ok⟩) (by simp [results, Tryd.results58, go_sem, rdV, c0, c1, c2, c3]) rfl ⟨by rw [HN.out, HH.out, HO.out], ?_⟩
  exact (((hbe.setCell (Nat.le_refl _) _).setCell (Nat.le_refl _) _).setCell (Nat.le_refl _) _).setCell (Nat.le_refl _) _

set_option maxHeartbeats 400000 in
theorem read_num (s : ByteArray) (h2 : s.size ≤ 100000) (n1 : (s.toList == [110, 117, 108, 108]) = false) (n2 : (s.toList == [121, 101, 115]) = false) (n3 : (s.toList == [110, 111]) = false) (hp : Lib.hasPrefix s.data.toList [39] = false) (hp2 : Lib.hasPrefix s.data.toList [91] = false) (w : World) (hg : Good w) :
    Calls Tryd.prog 58 #[.string s] w fun e w' => e = .returned (rdV ⟨1, numV s.data.toList, 0, [], numOK s.data.toList⟩) ∧ Below w.heap.size w w' := by
  have HP2 := Lib.hid hp2
  clear hp2
  have HP := Lib.hid hp
  clear hp
  have B0 := Boxed.new w 0 0 0 ⟨#[]⟩ 25
  have f0 : ∀ o, (w.alloc (.cells #[.int .u8 0, .int .i64 0, .int .i64 0, .string ⟨#[]⟩] 25)).frozen? ⟨w.heap.size, o, none⟩ = false := fun o => by simp
  have hg1 := hg.below (Below.allocs w (.cells #[.int .u8 0, .int .i64 0, .int .i64 0, .string ⟨#[]⟩] 25))
  go_enter Tryd.func58, Tryd.ntmps58
  go_wp2_with fail
  refine (Tryd.strings_HasPrefix s _ _).mono ?_
  rintro e w1 ⟨rfl, rfl⟩
  rw [show (⟨#[39]⟩ : ByteArray).data.toList = [39] from rfl, HP.out]
  go_wp2_with fail
  refine (Tryd.strings_HasPrefix s _ _).mono ?_
  rintro e w1 ⟨rfl, rfl⟩
  rw [show (⟨#[91]⟩ : ByteArray).data.toList = [91] from rfl, HP2.out]
  go_wp2_with fail
  refine (number_any s h2 _ hg1).mono ?_
  rintro e w1 ⟨rfl, hb⟩
  obtain ⟨n, hn⟩ : ∃ b, numV s.data.toList = b := ⟨_, rfl⟩
  obtain ⟨ok, ho⟩ : ∃ b, numOK s.data.toList = b := ⟨_, rfl⟩
  rw [hn, ho]
  have HN := Lib.hid hn
  have HO := Lib.hid ho
  clear hn ho
  have B1 := B0.below hb
  have f1 : ∀ o, w1.frozen? ⟨w.heap.size, o, none⟩ = false := fun o => by rw [hb.frozen B0.2.2.2.2]; exact f0 o
  obtain ⟨c0, c1, c2, c3, c4⟩ := B1
  have hbe := below_tr (Below.allocs w _) hb
  clear hg1 B0 f0 hb
  go_wp2_with fail
  refine bodyPost_ret (v := rdV ⟨1, n, 0, [], ok⟩) (by simp [results, Tryd.results58, go_sem, rdV, c0, c1, c2, c3]) rfl ⟨by rw [HN.out, HO.out], ?_⟩
  exact (((hbe.setCell (Nat.le_refl _) _).setCell (Nat.le_refl _) _).setCell (Nat.le_refl _) _).setCell (Nat.le_refl _) _


theorem read_any (s : ByteArray) (h2 : s.size ≤ 100000) (w : World) (hg : Good w) :
    Calls Tryd.prog 58 #[.string s] w fun e w' => e = .returned (rdV (readR s.data.toList)) ∧ Below w.heap.size w w' := by
  unfold readR
  by_cases n1 : s.data.toList = [110, 117, 108, 108]
  · rw [if_pos n1]
    obtain rfl : s = ⟨#[110, 117, 108, 108]⟩ := Go.WideShapes.bytes_inj n1
    exact read_null w
  rw [if_neg n1]
  by_cases n2 : s.data.toList = [121, 101, 115]
  · rw [if_pos n2]
    obtain rfl : s = ⟨#[121, 101, 115]⟩ := Go.WideShapes.bytes_inj n2
    exact read_yes w
  rw [if_neg n2]
  by_cases n3 : s.data.toList = [110, 111]
  · rw [if_pos n3]
    obtain rfl : s = ⟨#[110, 111]⟩ := Go.WideShapes.bytes_inj n3
    exact read_no w
  rw [if_neg n3]
  have m1 : (s.toList == [110, 117, 108, 108]) = false := by rw [ByteArray.toList_eq]; simpa using n1
  have m2 : (s.toList == [121, 101, 115]) = false := by rw [ByteArray.toList_eq]; simpa using n2
  have m3 : (s.toList == [110, 111]) = false := by rw [ByteArray.toList_eq]; simpa using n3
  cases hp : Lib.hasPrefix s.data.toList [39]
  · rw [if_neg (by simp)]
    cases hp2 : Lib.hasPrefix s.data.toList [91]
    · rw [if_neg (by simp)]
      exact read_num s h2 m1 m2 m3 hp hp2 w hg
    · rw [if_pos rfl]
      refine read_span s h2 m1 m2 m3 hp hp2 ?_ w hg
      have e : s.data.toList.length = s.size := by simp
      cases hl : s.data.toList with
      | nil => rw [hl] at hp2; simp [Lib.hasPrefix] at hp2
      | cons a l => rw [hl] at e; simp at e; omega
  · rw [if_pos rfl]
    exact read_text s h2 m1 m2 m3 hp w hg

end Go.Proofs.YtoglaibcmfjclaaDoor
