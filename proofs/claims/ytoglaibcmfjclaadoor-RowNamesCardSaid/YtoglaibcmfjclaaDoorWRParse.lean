/-
  What the document's own covenantref01.Parse answers: what value.Parse does; as walks over this translation.
-/
import Derived.Test.YtoglaibcmfjclaaDoorVRNum
import Derived.Test.YtoglaibcmfjclaaDoorVRText
import Derived.Test.YtoglaibcmfjclaaDoorVTwo
import Derived.Deep.QuietTactic
import Derived.BigQuiet
namespace Go.Proofs.YtoglaibcmfjclaaDoor
open Go.RowKit

theorem parseR_bounds (l : List UInt8) : (-9223372036854775808 ≤ (parseR l).n ∧ (parseR l).n ≤ 9223372036854775807) ∧ (-9223372036854775808 ≤ (parseR l).hi ∧ (parseR l).hi ≤ 9223372036854775807) := by
  unfold parseR
  split
  · exact readR_bounds l
  · simp

/-- A value that stands in a block of the call's own. -/
structure Own (w : World) (g : Nat) (k n hi : Int) (t : ByteArray) : Prop where
  c0 : w.cell? ⟨g, 0, none⟩ = some (.int .u8 k)
  c1 : w.cell? ⟨g, 1, none⟩ = some (.int .i64 n)
  c2 : w.cell? ⟨g, 2, none⟩ = some (.int .i64 hi)
  c3 : w.cell? ⟨g, 3, none⟩ = some (.string t)
  lt : g < w.heap.size
  fr : ∀ o, w.frozen? ⟨g, o, none⟩ = false

theorem Own.below {w w' : World} {g : Nat} {k n hi : Int} {t : ByteArray} (h : Own w g k n hi t) (hb : Below w.heap.size w w') : Own w' g k n hi t :=
  ⟨by rw [hb.cell h.lt]; exact h.c0, by rw [hb.cell h.lt]; exact h.c1, by rw [hb.cell h.lt]; exact h.c2, by rw [hb.cell h.lt]; exact h.c3, Nat.lt_of_lt_of_le h.lt hb.size,
    fun o => by rw [hb.frozen h.lt]; exact h.fr o⟩

theorem Own.new (w : World) (k n hi : Int) (t : ByteArray) (T : TypeId) : Own (w.alloc (.cells #[.int .u8 k, .int .i64 n, .int .i64 hi, .string t] T)) w.heap.size k n hi t :=
  ⟨by simp, by simp, by simp, by simp, by simp, fun o => by simp⟩

theorem own_ne {g i j : Nat} (h : i ≠ j) : (⟨g, i, none⟩ : Addr) ≠ ⟨g, j, none⟩ := fun e => h (by injection e)
theorem own_far {g g' i j : Nat} (h : g ≠ g') : (⟨g, i, none⟩ : Addr) ≠ ⟨g', j, none⟩ := fun e => h (by injection e)

theorem Own.set0 {w : World} {g : Nat} {k n hi : Int} {t : ByteArray} (h : Own w g k n hi t) (x : Int) : Own (w.setCell ⟨g, 0, none⟩ (.int .u8 x)) g x n hi t :=
  ⟨World.cell?_setCell_same _ _ _ h.c0, by rw [World.cell?_setCell_other _ _ _ _ (own_ne (by decide))]; exact h.c1, by rw [World.cell?_setCell_other _ _ _ _ (own_ne (by decide))]; exact h.c2, by rw [World.cell?_setCell_other _ _ _ _ (own_ne (by decide))]; exact h.c3, by simpa using h.lt, fun o => by simpa using h.fr o⟩
theorem Own.set1 {w : World} {g : Nat} {k n hi : Int} {t : ByteArray} (h : Own w g k n hi t) (x : Int) : Own (w.setCell ⟨g, 1, none⟩ (.int .i64 x)) g k x hi t :=
  ⟨by rw [World.cell?_setCell_other _ _ _ _ (own_ne (by decide))]; exact h.c0, World.cell?_setCell_same _ _ _ h.c1, by rw [World.cell?_setCell_other _ _ _ _ (own_ne (by decide))]; exact h.c2, by rw [World.cell?_setCell_other _ _ _ _ (own_ne (by decide))]; exact h.c3, by simpa using h.lt, fun o => by simpa using h.fr o⟩
theorem Own.set2 {w : World} {g : Nat} {k n hi : Int} {t : ByteArray} (h : Own w g k n hi t) (x : Int) : Own (w.setCell ⟨g, 2, none⟩ (.int .i64 x)) g k n x t :=
  ⟨by rw [World.cell?_setCell_other _ _ _ _ (own_ne (by decide))]; exact h.c0, by rw [World.cell?_setCell_other _ _ _ _ (own_ne (by decide))]; exact h.c1, World.cell?_setCell_same _ _ _ h.c2, by rw [World.cell?_setCell_other _ _ _ _ (own_ne (by decide))]; exact h.c3, by simpa using h.lt, fun o => by simpa using h.fr o⟩
theorem Own.set3 {w : World} {g : Nat} {k n hi : Int} {t : ByteArray} (h : Own w g k n hi t) (x : ByteArray) : Own (w.setCell ⟨g, 3, none⟩ (.string x)) g k n hi x :=
  ⟨by rw [World.cell?_setCell_other _ _ _ _ (own_ne (by decide))]; exact h.c0, by rw [World.cell?_setCell_other _ _ _ _ (own_ne (by decide))]; exact h.c1, by rw [World.cell?_setCell_other _ _ _ _ (own_ne (by decide))]; exact h.c2, World.cell?_setCell_same _ _ _ h.c3, by simpa using h.lt, fun o => by simpa using h.fr o⟩
theorem Own.far {w : World} {g : Nat} {k n hi : Int} {t : ByteArray} (h : Own w g k n hi t) {g' : Nat} (hne : g' ≠ g) (i : Nat) (v : Value) : Own (w.setCell ⟨g', i, none⟩ v) g k n hi t :=
  ⟨by rw [World.cell?_setCell_other _ _ _ _ (own_far hne)]; exact h.c0, by rw [World.cell?_setCell_other _ _ _ _ (own_far hne)]; exact h.c1, by rw [World.cell?_setCell_other _ _ _ _ (own_far hne)]; exact h.c2, by rw [World.cell?_setCell_other _ _ _ _ (own_far hne)]; exact h.c3, by simpa using h.lt, fun o => by simpa using h.fr o⟩

/-- What is read is the text's value, if there is one. -/
def CandOK (l : List UInt8) (k n hi : Int) (t : List UInt8) : Prop :=
  ∀ k' n' hi' t', I64 n' → I64 hi' → mayB k' n' hi' t' = true → textL k' n' hi' t' = l → k = k' ∧ n = n' ∧ hi = hi' ∧ t = t'

theorem cand_yes {l : List UInt8} {k n hi : Int} {t : List UInt8} (hl : l ≠ []) (b1 : I64 n) (b2 : I64 hi) (h : textL k n hi t = l) : parseR l = ⟨k, n, hi, t, true⟩ := by
  cases hm : mayB k n hi t with
  | true => rw [← h]; exact parse_textL k n hi t b1 b2 hm
  | false => exact absurd (by rw [← h]; simp [textL, hm]) hl

theorem cand_no {l : List UInt8} {k n hi : Int} {t : List UInt8} (hc : CandOK l k n hi t) (h : textL k n hi t ≠ l) : parseR l = ⟨0, 0, 0, [], false⟩ := by
  apply parseR_no
  cases hok : (parseR l).ok with
  | false => rfl
  | true =>
    obtain ⟨h1, h2⟩ := parseR_ok l hok
    have hb := parseR_bounds l
    obtain ⟨e1, e2, e3, e4⟩ := hc _ _ _ _ hb.1 hb.2 h1 h2
    rw [e1, e2, e3, e4] at h
    exact absurd h2 h


theorem two_own (w : World) (k n hi : Int) (t : ByteArray) (T : TypeId) : ∃ W : World, W = (w.alloc (.cells #[.int .u8 0, .int .i64 0, .int .i64 0, .string ⟨#[]⟩] T)).alloc (.cells #[.int .u8 k, .int .i64 n, .int .i64 hi, .string t] T) ∧
    Own W w.heap.size 0 0 0 ⟨#[]⟩ ∧ Own W (w.heap.size + 1) k n hi t ∧ Below w.heap.size w W := by
  refine ⟨_, rfl, (Own.new w 0 0 0 ⟨#[]⟩ T).below (Below.allocs _ _), ?_, ((Below.refl _ _).alloc (Nat.le_refl _) _).alloc (by simp) _⟩
  have := Own.new (w.alloc (.cells #[.int .u8 0, .int .i64 0, .int .i64 0, .string ⟨#[]⟩] T)) k n hi t T
  rw [show (w.alloc (.cells #[.int .u8 0, .int .i64 0, .int .i64 0, .string ⟨#[]⟩] T)).heap.size = w.heap.size + 1 by simp] at this
  exact this

theorem rtext_is (k n hi : Int) (b1 : I64 n) (b2 : I64 hi) (t tx : ByteArray) (h : textL k n hi t.data.toList = tx.data.toList) (w : World) :
    Calls Tryd.prog 33 #[.agg #[.int .u8 k, .int .i64 n, .int .i64 hi, .string t]] w fun e w' => e = .returned (.string tx) ∧ Below w.heap.size w w' :=
  (rtext_any k n hi b1.1 b1.2 b2.1 b2.2 t w).mono fun _ _ hq => by rw [h, ba_eta] at hq; exact hq

theorem i64_0 : I64 0 := by unfold I64; omega
theorem i64_1 : I64 1 := by unfold I64; omega

set_option maxRecDepth 100000 in
set_option maxHeartbeats 4000000 in
theorem rparse_empty (s : ByteArray) (hs : s.toList = []) (w : World) :
    Calls Tryd.prog 38 #[.string s] w fun e w' => e = .returned (paV (parseR s.data.toList)) ∧ Below w.heap.size w w' := by
  have e1 : (s.toList == ([] : List UInt8)) = true := by rw [hs]; rfl
  have HP := Lib.hid (show parseR s.data.toList = ⟨0, 0, 0, [], false⟩ by rw [← ByteArray.toList_eq, hs]; exact parseR_no _ (by decide +kernel))
  have hbe := Below.allocs w (.cells #[.int .u8 0, .int .i64 0, .int .i64 0, .string ⟨#[]⟩] 25)
  obtain ⟨c0, c1, c2, c3, c4, f0⟩ := Own.new w 0 0 0 ⟨#[]⟩ 25
  go_enter Tryd.func38, Tryd.ntmps38
  go_wp2_with fail
  refine bodyPost_ret (v := paV ⟨0, 0, 0, [], false⟩) (by simp [results, Tryd.results38, go_sem, paV, c0, c1, c2, c3]) rfl ⟨by rw [HP.out], hbe⟩

set_option maxRecDepth 100000 in
set_option maxHeartbeats 4000000 in
theorem rparse_null (s : ByteArray) (hs : s.toList = [110, 117, 108, 108]) (w : World) :
    Calls Tryd.prog 38 #[.string s] w fun e w' => e = .returned (paV (parseR s.data.toList)) ∧ Below w.heap.size w w' := by
  have e1 : (s.toList == ([] : List UInt8)) = false := by rw [hs]; rfl
  have e2 : (s.toList == [110, 117, 108, 108]) = true := by rw [hs]; rfl
  have ex : textL 0 0 0 [] = s.data.toList := by rw [← ByteArray.toList_eq, hs]; decide +kernel
  have HP := Lib.hid (cand_yes (by rw [← ByteArray.toList_eq, hs]; simp) i64_0 i64_0 ex)
  have HX := Lib.hid ex
  clear ex hs
  obtain ⟨W, hW, OA, OB, hbW⟩ := two_own w 0 0 0 ⟨#[]⟩ 25
  go_enter Tryd.func38, Tryd.ntmps38
  go_wp2_with fail
  rw [← hW]
  clear hW
  refine (rtext_is 0 0 0 i64_0 i64_0 ⟨#[]⟩ s HX.out _).mono ?_
  rintro e w2 ⟨rfl, hb2⟩
  obtain ⟨c0, c1, c2, c3, c4, f0⟩ := OA.below hb2
  obtain ⟨d0, d1, d2, d3, d4, g0⟩ := OB.below hb2
  have hbe := below_tr hbW hb2
  go_wp2_with fail
  refine bodyPost_ret (v := paV ⟨0, 0, 0, [], true⟩) (by simp [results, Tryd.results38, go_sem, paV, c0, c1, c2, c3]) rfl ⟨by rw [HP.out], ?_⟩
  exact (((hbe.setCell (Nat.le_refl _) _).setCell (Nat.le_refl _) _).setCell (Nat.le_refl _) _).setCell (Nat.le_refl _) _

set_option maxRecDepth 100000 in
set_option maxHeartbeats 4000000 in
theorem rparse_yes (s : ByteArray) (hs : s.toList = [121, 101, 115]) (w : World) :
    Calls Tryd.prog 38 #[.string s] w fun e w' => e = .returned (paV (parseR s.data.toList)) ∧ Below w.heap.size w w' := by
  have e1 : (s.toList == ([] : List UInt8)) = false := by rw [hs]; rfl
  have e2 : (s.toList == [110, 117, 108, 108]) = false := by rw [hs]; rfl
  have e3 : (s.toList == [121, 101, 115]) = true := by rw [hs]; rfl
  have ex : textL 2 1 0 [] = s.data.toList := by rw [← ByteArray.toList_eq, hs]; decide +kernel
  have HP := Lib.hid (cand_yes (by rw [← ByteArray.toList_eq, hs]; simp) i64_1 i64_0 ex)
  have HX := Lib.hid ex
  clear ex hs
  obtain ⟨W, hW, OA, OB, hbW⟩ := two_own w 2 1 0 ⟨#[]⟩ 25
  go_enter Tryd.func38, Tryd.ntmps38
  go_wp2_with fail
  rw [← hW]
  clear hW
  refine (rtext_is 2 1 0 i64_1 i64_0 ⟨#[]⟩ s HX.out _).mono ?_
  rintro e w2 ⟨rfl, hb2⟩
  obtain ⟨c0, c1, c2, c3, c4, f0⟩ := OA.below hb2
  obtain ⟨d0, d1, d2, d3, d4, g0⟩ := OB.below hb2
  have hbe := below_tr hbW hb2
  go_wp2_with fail
  refine bodyPost_ret (v := paV ⟨2, 1, 0, [], true⟩) (by simp [results, Tryd.results38, go_sem, paV, c0, c1, c2, c3]) rfl ⟨by rw [HP.out], ?_⟩
  exact (((hbe.setCell (Nat.le_refl _) _).setCell (Nat.le_refl _) _).setCell (Nat.le_refl _) _).setCell (Nat.le_refl _) _

set_option maxRecDepth 100000 in
set_option maxHeartbeats 4000000 in
theorem rparse_no (s : ByteArray) (hs : s.toList = [110, 111]) (w : World) :
    Calls Tryd.prog 38 #[.string s] w fun e w' => e = .returned (paV (parseR s.data.toList)) ∧ Below w.heap.size w w' := by
  have e1 : (s.toList == ([] : List UInt8)) = false := by rw [hs]; rfl
  have e2 : (s.toList == [110, 117, 108, 108]) = false := by rw [hs]; rfl
  have e3 : (s.toList == [121, 101, 115]) = false := by rw [hs]; rfl
  have e4 : (s.toList == [110, 111]) = true := by rw [hs]; rfl
  have ex : textL 2 0 0 [] = s.data.toList := by rw [← ByteArray.toList_eq, hs]; decide +kernel
  have HP := Lib.hid (cand_yes (by rw [← ByteArray.toList_eq, hs]; simp) i64_0 i64_0 ex)
  have HX := Lib.hid ex
  clear ex hs
  obtain ⟨W, hW, OA, OB, hbW⟩ := two_own w 2 0 0 ⟨#[]⟩ 25
  go_enter Tryd.func38, Tryd.ntmps38
  go_wp2_with fail
  rw [← hW]
  clear hW
  refine (rtext_is 2 0 0 i64_0 i64_0 ⟨#[]⟩ s HX.out _).mono ?_
  rintro e w2 ⟨rfl, hb2⟩
  obtain ⟨c0, c1, c2, c3, c4, f0⟩ := OA.below hb2
  obtain ⟨d0, d1, d2, d3, d4, g0⟩ := OB.below hb2
  have hbe := below_tr hbW hb2
  go_wp2_with fail
  refine bodyPost_ret (v := paV ⟨2, 0, 0, [], true⟩) (by simp [results, Tryd.results38, go_sem, paV, c0, c1, c2, c3]) rfl ⟨by rw [HP.out], ?_⟩
  exact (((hbe.setCell (Nat.le_refl _) _).setCell (Nat.le_refl _) _).setCell (Nat.le_refl _) _).setCell (Nat.le_refl _) _

theorem textL_kind {k n hi : Int} {t l : List UInt8} (hm : mayB k n hi t = true) (h : textL k n hi t = l) :
    (k = 0 ∧ l = [110, 117, 108, 108]) ∨ (k = 1 ∧ hi = 0 ∧ t = [] ∧ l = Lib.itoa n) ∨ (k = 2 ∧ (l = [121, 101, 115] ∨ l = [110, 111])) ∨ (k = 3 ∧ n = 0 ∧ hi = 0 ∧ l = 39 :: (dbl t ++ [39])) ∨ (k = 4 ∧ t = [] ∧ l = 91 :: (Lib.itoa n ++ 44 :: (Lib.itoa hi ++ [41]))) := by
  subst h
  rcases mayB_iff.1 hm with h | h | h | h | h
  · obtain ⟨rfl, rfl, rfl, rfl⟩ := h; exact Or.inl ⟨rfl, by simp [textL, hm]⟩
  · obtain ⟨rfl, rfl, rfl⟩ := h; exact Or.inr (Or.inl ⟨rfl, rfl, rfl, by simp [textL, hm]⟩)
  · obtain ⟨rfl, hn, rfl, rfl⟩ := h
    refine Or.inr (Or.inr (Or.inl ⟨rfl, ?_⟩))
    rcases hn with rfl | rfl
    · exact Or.inr (by simp [textL, hm])
    · exact Or.inl (by simp [textL, hm])
  · obtain ⟨rfl, rfl, rfl, _⟩ := h; exact Or.inr (Or.inr (Or.inr (Or.inl ⟨rfl, rfl, rfl, by simp [textL, hm]⟩)))
  · obtain ⟨rfl, _, rfl⟩ := h; exact Or.inr (Or.inr (Or.inr (Or.inr ⟨rfl, rfl, by simp [textL, hm]⟩)))

theorem itoa_head (n : Int) (c : UInt8) (h : (Lib.itoa n).head? = some c) : c = 45 ∨ (48 ≤ c.toNat ∧ c.toNat ≤ 57) := by
  obtain ⟨d, r, e, hd⟩ := itoa_cons n
  rw [e] at h
  cases h
  exact hd

theorem cand_int {l : List UInt8} {v : Int} {m : Nat} (h1 : l ≠ [110, 117, 108, 108]) (h2 : l ≠ [121, 101, 115]) (h3 : l ≠ [110, 111]) (h4 : l.head? ≠ some 39) (h5 : l.head? ≠ some 91) (hN : NumR l v m) : CandOK l 1 v 0 [] := by
  intro k n hi t b1 b2 hm ht
  rcases textL_kind hm ht with h | h | h | h | h
  · exact absurd h.2 h1
  · obtain ⟨rfl, rfl, rfl, h⟩ := h
    exact ⟨rfl, (hN.is n b1 [] (by simpa using h) (by simp)).1, rfl, rfl⟩
  · exact h.2.elim (fun e => absurd e h2) (fun e => absurd e h3)
  · exact absurd (by rw [h.2.2.2]; rfl) h4
  · exact absurd (by rw [h.2.2]; rfl) h5

theorem cand_text {l : List UInt8} (h1 : l ≠ [110, 117, 108, 108]) (h2 : l ≠ [121, 101, 115]) (h3 : l ≠ [110, 111]) (h4 : l.head? = some 39) : CandOK l 3 0 0 (skipQ ((l.drop 1).take (l.length - 2))) := by
  intro k n hi t b1 b2 hm ht
  rcases textL_kind hm ht with h | h | h | h | h
  · exact absurd h.2 h1
  · obtain ⟨rfl, rfl, rfl, h⟩ := h
    rw [h] at h4
    rcases itoa_head n 39 h4 with h | h
    · exact absurd h (by decide)
    · exact absurd h.1 (by decide)
  · exact h.2.elim (fun e => absurd e h2) (fun e => absurd e h3)
  · obtain ⟨rfl, rfl, rfl, h⟩ := h
    refine ⟨rfl, rfl, rfl, ?_⟩
    rw [h]
    have e : ((39 :: (dbl t ++ [39])).drop 1).take ((39 :: (dbl t ++ [39])).length - 2) = dbl t := by simp
    rw [e, skipQ_dbl]
  · rw [h.2.2] at h4
    cases h4

theorem cand_span {l : List UInt8} {v x : Int} {m m' : Nat} (h1 : l ≠ [110, 117, 108, 108]) (h2 : l ≠ [121, 101, 115]) (h3 : l ≠ [110, 111]) (h4 : l.head? = some 91) (hN : NumR (l.drop 1) v m) (hN2 : 1 + m < l.length → NumR (l.drop (2 + m)) x m') : CandOK l 4 v x [] := by
  intro k n hi t b1 b2 hm ht
  rcases textL_kind hm ht with h | h | h | h | h
  · exact absurd h.2 h1
  · obtain ⟨rfl, rfl, rfl, h⟩ := h
    rw [h] at h4
    rcases itoa_head n 91 h4 with h | h
    · exact absurd h (by decide)
    · exact absurd h.2 (by decide)
  · exact h.2.elim (fun e => absurd e h2) (fun e => absurd e h3)
  · rw [h.2.2.2] at h4
    cases h4
  · obtain ⟨rfl, rfl, h⟩ := h
    have q1 := hN.is n b1 (44 :: (Lib.itoa hi ++ [41])) (by rw [h]; rfl) (fun c hc => by cases hc; decide)
    have q2 := (hN2 (by rw [h, q1.2]; simp; omega)).is hi b2 [41] (by
      rw [h, q1.2]
      have e : 91 :: (Lib.itoa n ++ 44 :: (Lib.itoa hi ++ [41])) = (91 :: (Lib.itoa n ++ [44])) ++ (Lib.itoa hi ++ [41]) := by simp
      rw [e]
      exact List.drop_left' (by simp; omega)) (fun c hc => by cases hc; decide)
    exact ⟨rfl, q1.1, q2.1, rfl⟩

theorem head_is (s : ByteArray) (h : 0 < s.size) (c : UInt8) (p : ((s[0].toNat : Int) == (c.toNat : Int)) = true) : s.data.toList.head? = some c := by
  rw [List.head?_eq_getElem?, get_at s 0 h]
  congr 1
  apply UInt8.toNat_inj.1
  have := beq_iff_eq.1 p
  omega

theorem head_not (s : ByteArray) (h : 0 < s.size) (c : UInt8) (p : ((s[0].toNat : Int) == (c.toNat : Int)) = false) : s.data.toList.head? ≠ some c := by
  rw [List.head?_eq_getElem?, get_at s 0 h]
  intro e
  have e2 : s[0] = c := Option.some.inj e
  rw [e2] at p
  simp at p

set_option maxRecDepth 100000 in
set_option maxHeartbeats 4000000 in
theorem rparse_int (s : ByteArray) (hz : s.size ≤ 100000) (h0 : s.toList ≠ []) (h1 : s.toList ≠ [110, 117, 108, 108]) (h2 : s.toList ≠ [121, 101, 115]) (h3 : s.toList ≠ [110, 111]) (h4 : ∀ h : 0 < s.size, ((s[0].toNat : Int) == 39) = false) (h5 : ∀ h : 0 < s.size, ((s[0].toNat : Int) == 91) = false) (w : World) :
    Calls Tryd.prog 38 #[.string s] w fun e w' => e = .returned (paV (parseR s.data.toList)) ∧ Below w.heap.size w w' := by
  have e1 : (s.toList == ([] : List UInt8)) = false := by simpa using h0
  have e2 : (s.toList == [110, 117, 108, 108]) = false := by simpa using h1
  have e3 : (s.toList == [121, 101, 115]) = false := by simpa using h2
  have e4 : (s.toList == [110, 111]) = false := by simpa using h3
  have hpos : 0 < s.size := by
    rcases Nat.eq_zero_or_pos s.size with h | h
    · exact absurd (by rw [ByteArray.toList_eq]; exact List.eq_nil_of_length_eq_zero (by simpa using h)) h0
    · exact h
  have hposI : (0 : Int) < (s.size : Int) := by omega
  have hne : s.data.toList ≠ [] := by rw [← ByteArray.toList_eq]; exact h0
  have HNE := Lib.hid hne
  have L0 := Lib.hid (show s.data.toList.length = s.size by simp)
  clear hne
  have n1 : s.data.toList ≠ [110, 117, 108, 108] := by rw [← ByteArray.toList_eq]; exact h1
  have n2 : s.data.toList ≠ [121, 101, 115] := by rw [← ByteArray.toList_eq]; exact h2
  have n3 : s.data.toList ≠ [110, 111] := by rw [← ByteArray.toList_eq]; exact h3
  have N1 := Lib.hid n1
  have N2 := Lib.hid n2
  have N3 := Lib.hid n3
  clear n1 n2 n3 h0 h1 h2 h3
  have e5 := h4 hpos
  have e6 := h5 hpos
  have K4 := Lib.hid (head_not s hpos 39 e5)
  have K5 := Lib.hid (head_not s hpos 91 e6)
  obtain ⟨W, hW, OA, OB, hbW⟩ := two_own w 1 0 0 ⟨#[]⟩ 25
  go_enter Tryd.func38, Tryd.ntmps38
  go_wp2_with fail
  rw [← hW]
  clear hW
  refine (rnumber_any s (by omega) _).mono ?_
  rintro e w2 ⟨⟨v, m, hN, rfl⟩, hb2⟩
  have hv := hN.1
  have HN := Lib.hid hN
  clear hN
  have OA2 := OA.below hb2
  have OB2 := OB.below hb2
  have hb3 := below_tr hbW hb2
  clear OA OB hbW
  have OA3 := OA2
  have OB3 := OB2
  obtain ⟨c0, c1, c2, c3, c4, f0⟩ := OA3
  obtain ⟨d0, d1, d2, d3, d4, g0⟩ := OB3
  go_wp2_with fail
  clear c0 c1 c2 c3 d0 d1 d2 d3
  have OA := OA2.far (by omega) 1 (.int .i64 v) (g' := w.heap.size + 1)
  have OB := OB2.set1 v
  have hbW := hb3.setCell (p := ⟨w.heap.size + 1, 1, none⟩) (by simp) (.int .i64 v)
  obtain ⟨x, hx⟩ : ∃ x : ByteArray, textL 1 v 0 [] = x.data.toList := ⟨⟨(textL 1 v 0 []).toArray⟩, rfl⟩
  have HX := Lib.hid hx
  clear hx
  refine (rtext_is 1 v 0 hv i64_0 ⟨#[]⟩ x HX.out _).mono ?_
  rintro e w9 ⟨rfl, hb9⟩
  obtain ⟨c0, c1, c2, c3, c4, f0⟩ := OA.below hb9
  obtain ⟨d0, d1, d2, d3, d4, g0⟩ := OB.below hb9
  have hbe := below_tr hbW hb9
  by_cases hxs : x.toList = s.toList
  · have HP := Lib.hid (cand_yes (k := 1) (n := v) (hi := 0) (t := []) HNE.out hv i64_0 (by rw [HX.out, ← ByteArray.toList_eq, ← ByteArray.toList_eq]; exact hxs))
    have hxs' : (x.toList == s.toList) = true := by simpa using hxs
    clear hxs
    go_wp2_with fail
    refine bodyPost_ret (v := paV ⟨1, v, 0, [], true⟩) (by simp [results, Tryd.results38, go_sem, paV, c0, c1, c2, c3]) rfl ⟨by rw [HP.out], ?_⟩
    exact (((hbe.setCell (Nat.le_refl _) _).setCell (Nat.le_refl _) _).setCell (Nat.le_refl _) _).setCell (Nat.le_refl _) _
  · have HP := Lib.hid (cand_no (k := 1) (n := v) (hi := 0) (t := []) (l := s.data.toList) (cand_int N1.out N2.out N3.out K4.out K5.out HN.out) (by rw [HX.out, ← ByteArray.toList_eq, ← ByteArray.toList_eq]; exact hxs))
    have hxs' : (x.toList == s.toList) = false := by simpa using hxs
    clear hxs
    go_wp2_with fail
    refine bodyPost_ret (v := paV ⟨0, 0, 0, [], false⟩) (by simp [results, Tryd.results38, go_sem, paV, c0, c1, c2, c3]) rfl ⟨by rw [HP.out], ?_⟩
    exact (((hbe.setCell (Nat.le_refl _) _).setCell (Nat.le_refl _) _).setCell (Nat.le_refl _) _).setCell (Nat.le_refl _) _
set_option maxRecDepth 100000 in
set_option maxHeartbeats 4000000 in
theorem rparse_text (s : ByteArray) (hz : s.size ≤ 100000) (h0 : s.toList ≠ []) (h1 : s.toList ≠ [110, 117, 108, 108]) (h2 : s.toList ≠ [121, 101, 115]) (h3 : s.toList ≠ [110, 111]) (h4 : ∀ h : 0 < s.size, ((s[0].toNat : Int) == 39) = true) (w : World) :
    Calls Tryd.prog 38 #[.string s] w fun e w' => e = .returned (paV (parseR s.data.toList)) ∧ Below w.heap.size w w' := by
  have e1 : (s.toList == ([] : List UInt8)) = false := by simpa using h0
  have e2 : (s.toList == [110, 117, 108, 108]) = false := by simpa using h1
  have e3 : (s.toList == [121, 101, 115]) = false := by simpa using h2
  have e4 : (s.toList == [110, 111]) = false := by simpa using h3
  have hpos : 0 < s.size := by
    rcases Nat.eq_zero_or_pos s.size with h | h
    · exact absurd (by rw [ByteArray.toList_eq]; exact List.eq_nil_of_length_eq_zero (by simpa using h)) h0
    · exact h
  have hposI : (0 : Int) < (s.size : Int) := by omega
  have hne : s.data.toList ≠ [] := by rw [← ByteArray.toList_eq]; exact h0
  have HNE := Lib.hid hne
  have L0 := Lib.hid (show s.data.toList.length = s.size by simp)
  clear hne
  have n1 : s.data.toList ≠ [110, 117, 108, 108] := by rw [← ByteArray.toList_eq]; exact h1
  have n2 : s.data.toList ≠ [121, 101, 115] := by rw [← ByteArray.toList_eq]; exact h2
  have n3 : s.data.toList ≠ [110, 111] := by rw [← ByteArray.toList_eq]; exact h3
  have N1 := Lib.hid n1
  have N2 := Lib.hid n2
  have N3 := Lib.hid n3
  clear n1 n2 n3 h0 h1 h2 h3
  have e5 := h4 hpos
  have K4 := Lib.hid (cand_text N1.out N2.out N3.out (head_is s hpos 39 e5))
  obtain ⟨mid, hmid⟩ : ∃ mid, (s.data.toList.drop 1).take (s.data.toList.length - 2) = mid := ⟨_, rfl⟩
  rw [hmid] at K4
  have hml : mid.length = s.size - 2 := by rw [← hmid, List.length_take, List.length_drop, L0.out]; omega
  have hmg : ∀ j, j + 2 < s.size → ∀ h : j + 1 < s.size, mid.drop j = s[j + 1] :: mid.drop (j + 1) := by
    intro j hj h
    have h2 : j < mid.length := by omega
    rw [List.drop_eq_getElem_cons h2]
    congr 1
    have e : mid[j]? = s.data.toList[1 + j]? := by rw [← hmid, List.getElem?_take_of_lt (by rw [L0.out]; omega), List.getElem?_drop]
    rw [List.getElem?_eq_getElem h2, show 1 + j = j + 1 by omega, get_at s (j + 1) h] at e
    exact Option.some.inj e
  have HML := Lib.hid hml
  have HMG := Lib.hid hmg
  clear hmid hml hmg
  obtain ⟨W, hW, OA, OB, hbW⟩ := two_own w 3 0 0 ⟨#[]⟩ 25
  go_enter Tryd.func38, Tryd.ntmps38
  go_wp2_with fail
  rw [← hW]
  clear hW
  go_loopw [5] (fun c wr => ∃ (i : Nat) (T : ByteArray), 1 ≤ i ∧ i ≤ s.size ∧ T.size ≤ i ∧ c = .int .i64 i ∧ T.data.toList ++ skipQ (mid.drop (i - 1)) = skipQ mid ∧ Own wr (w.heap.size + 1) 3 0 0 T ∧ Own wr w.heap.size 0 0 0 ⟨#[]⟩ ∧ Below w.heap.size w wr) (fun c _ => s.size - (intOf c).toNat)
  case atStart => exact ⟨1, ⟨#[]⟩, by omega, by omega, by decide, rfl, by simp, OB, OA, hbW⟩
  case round =>
    clear OA OB hbW
    obtain ⟨i, T, hi1, hi2, hT, rfl, hinv, OB, OA, hbW⟩ := hrel
    have HI := Lib.hid hinv
    clear hinv
    have OA3 := OA
    have OB3 := OB
    obtain ⟨c0, c1, c2, c3, c4, f0⟩ := OA3
    obtain ⟨d0, d1, d2, d3, d4, g0⟩ := OB3
    by_cases g1 : i + 1 < s.size
    · have i0 : (0 : Int) ≤ (i : Int) := by omega
      have i1 : (i : Int) < (s.size : Int) := by omega
      have i2 : (i : Int) + 1 < (s.size : Int) := by omega
      have hx : (s.extract i (i + 1)).size = 1 := by simp; omega
      have hd : mid.drop (i - 1) = s[i] :: mid.drop i := by
        obtain ⟨j, rfl⟩ : ∃ j, i = j + 1 := ⟨i - 1, by omega⟩
        exact HMG.out j (by omega) (by omega)
      have hTs : (T ++ s.extract i (i + 1)).size ≤ i + 1 := by rw [ByteArray.size_append]; omega
      have hTl : (T ++ s.extract i (i + 1)).data.toList = T.data.toList ++ [s[i]] := by rw [extract_one s i (by omega)]; simp [ByteArray.data_append]
      by_cases p : s[i] = 39
      · have p' : ((s[i].toNat : Int) == 39) = true := by rw [p]; rfl
        have hnew : (T ++ s.extract i (i + 1)).data.toList ++ skipQ (mid.drop (i + 1)) = skipQ mid := by
          rw [hTl, ← HI.out, hd, skipQ, if_pos p, List.tail_drop]
          simp
        have HW := Lib.hid hnew
        have HS := Lib.hid hTs
        clear hnew hTs hTl hd p
        go_wp2_with fail
        go_region
        go_wp2_with fail
        go_roundw
        case rel => exact ⟨i + 2, _, by omega, by omega, by have := HS.out; omega, by go_num, HW.out, (OB.set3 _).below (Below.refl _ _).drew, (OA.far (by omega) 3 _).below (Below.refl _ _).drew, below_tr (hbW.setCell (by simp) _) (Below.refl _ _).drew⟩
        case measure => simp [intOf]; omega
      · have p' : ((s[i].toNat : Int) == 39) = false := by
          rw [beq_eq_false_iff_ne]
          intro h
          apply p
          apply UInt8.toNat_inj.1
          show s[i].toNat = 39
          omega
        have hnew : (T ++ s.extract i (i + 1)).data.toList ++ skipQ (mid.drop (i + 1 - 1)) = skipQ mid := by
          rw [hTl, ← HI.out, hd, skipQ, if_neg p, Nat.add_sub_cancel]
          simp
        have HW := Lib.hid hnew
        have HS := Lib.hid hTs
        clear hnew hTs hTl hd p
        go_wp2_with fail
        go_region
        go_wp2_with fail
        go_roundw
        case rel => exact ⟨i + 1, _, by omega, by omega, HS.out, by go_num, HW.out, (OB.set3 _).below (Below.refl _ _).drew, (OA.far (by omega) 3 _).below (Below.refl _ _).drew, below_tr (hbW.setCell (by simp) _) (Below.refl _ _).drew⟩
        case measure => simp [intOf]; omega
    · have i2 : ¬ (i : Int) + 1 < (s.size : Int) := by omega
      have hTm : T.data.toList = skipQ mid := by
        have := HI.out
        rw [List.drop_of_length_le (by rw [HML.out]; omega), skipQ, List.append_nil] at this
        exact this
      have KT := Lib.hid (show CandOK s.data.toList 3 0 0 T.data.toList by rw [hTm]; exact K4.out)
      clear hTm
      go_wp2_with fail
      clear c0 c1 c2 c3 d0 d1 d2 d3
      obtain ⟨x, hx⟩ : ∃ x : ByteArray, textL 3 0 0 T.data.toList = x.data.toList := ⟨⟨(textL 3 0 0 T.data.toList).toArray⟩, rfl⟩
      have HX := Lib.hid hx
      clear hx
      refine (rtext_is 3 0 0 i64_0 i64_0 T x HX.out _).mono ?_
      rintro e w9 ⟨rfl, hb9⟩
      obtain ⟨c0, c1, c2, c3, c4, f0⟩ := OA.below hb9
      obtain ⟨d0, d1, d2, d3, d4, g0⟩ := OB.below hb9
      have hbe := below_tr hbW hb9
      by_cases hxs : x.toList = s.toList
      · have HP := Lib.hid (cand_yes (k := 3) (n := 0) (hi := 0) (t := T.data.toList) HNE.out i64_0 i64_0 (by rw [HX.out, ← ByteArray.toList_eq, ← ByteArray.toList_eq]; exact hxs))
        have hxs' : (x.toList == s.toList) = true := by simpa using hxs
        clear hxs
        go_wp2_with fail
        refine bodyPost_ret (v := paV ⟨3, 0, 0, T.data.toList, true⟩) (by simp [results, Tryd.results38, go_sem, paV, c0, c1, c2, c3]) rfl ⟨by rw [HP.out], ?_⟩
        exact (((hbe.setCell (Nat.le_refl _) _).setCell (Nat.le_refl _) _).setCell (Nat.le_refl _) _).setCell (Nat.le_refl _) _
      · have HP := Lib.hid (cand_no (k := 3) (n := 0) (hi := 0) (t := T.data.toList) (l := s.data.toList) KT.out (by rw [HX.out, ← ByteArray.toList_eq, ← ByteArray.toList_eq]; exact hxs))
        have hxs' : (x.toList == s.toList) = false := by simpa using hxs
        clear hxs
        go_wp2_with fail
        refine bodyPost_ret (v := paV ⟨0, 0, 0, [], false⟩) (by simp [results, Tryd.results38, go_sem, paV, c0, c1, c2, c3]) rfl ⟨by rw [HP.out], ?_⟩
        exact (((hbe.setCell (Nat.le_refl _) _).setCell (Nat.le_refl _) _).setCell (Nat.le_refl _) _).setCell (Nat.le_refl _) _

theorem ext_drop (s : ByteArray) (a : Nat) : (s.extract a s.size).data.toList = s.data.toList.drop a := by
  rw [ByteArray.data_extract, Array.toList_extract, List.extract_eq_take_drop]
  exact List.take_of_length_le (by rw [List.length_drop]; simp)

set_option maxRecDepth 100000 in
set_option maxHeartbeats 4000000 in
theorem rparse_span (s : ByteArray) (hz : s.size ≤ 100000) (h0 : s.toList ≠ []) (h1 : s.toList ≠ [110, 117, 108, 108]) (h2 : s.toList ≠ [121, 101, 115]) (h3 : s.toList ≠ [110, 111]) (h4 : ∀ h : 0 < s.size, ((s[0].toNat : Int) == 39) = false) (h5 : ∀ h : 0 < s.size, ((s[0].toNat : Int) == 91) = true) (w : World) :
    Calls Tryd.prog 38 #[.string s] w fun e w' => e = .returned (paV (parseR s.data.toList)) ∧ Below w.heap.size w w' := by
  have e1 : (s.toList == ([] : List UInt8)) = false := by simpa using h0
  have e2 : (s.toList == [110, 117, 108, 108]) = false := by simpa using h1
  have e3 : (s.toList == [121, 101, 115]) = false := by simpa using h2
  have e4 : (s.toList == [110, 111]) = false := by simpa using h3
  have hpos : 0 < s.size := by
    rcases Nat.eq_zero_or_pos s.size with h | h
    · exact absurd (by rw [ByteArray.toList_eq]; exact List.eq_nil_of_length_eq_zero (by simpa using h)) h0
    · exact h
  have hposI : (0 : Int) < (s.size : Int) := by omega
  have hne : s.data.toList ≠ [] := by rw [← ByteArray.toList_eq]; exact h0
  have HNE := Lib.hid hne
  have L0 := Lib.hid (show s.data.toList.length = s.size by simp)
  clear hne
  have n1 : s.data.toList ≠ [110, 117, 108, 108] := by rw [← ByteArray.toList_eq]; exact h1
  have n2 : s.data.toList ≠ [121, 101, 115] := by rw [← ByteArray.toList_eq]; exact h2
  have n3 : s.data.toList ≠ [110, 111] := by rw [← ByteArray.toList_eq]; exact h3
  have N1 := Lib.hid n1
  have N2 := Lib.hid n2
  have N3 := Lib.hid n3
  clear n1 n2 n3 h0 h1 h2 h3
  have e5 := h4 hpos
  have e6 := h5 hpos
  have K5 := Lib.hid (head_is s hpos 91 e6)
  have e7 : (1 : Int) ≤ (s.size : Int) := by omega
  have hx1 : (s.extract 1 s.size).size ≤ 100000 := by simp; omega
  obtain ⟨W, hW, OA, OB, hbW⟩ := two_own w 4 0 0 ⟨#[]⟩ 25
  go_enter Tryd.func38, Tryd.ntmps38
  go_wp2_with fail
  rw [← hW]
  clear hW
  refine (rnumber_any (s.extract 1 s.size) (by omega) _).mono ?_
  rintro e w2 ⟨⟨v, m, hN, rfl⟩, hb2⟩
  rw [ext_drop] at hN
  have hv := hN.1
  have hm : m ≤ s.size - 1 := by have := hN.2.1; rw [List.length_drop, L0.out] at this; exact this
  have HN := Lib.hid hN
  clear hN
  have OA2 := OA.below hb2
  have OB2 := OB.below hb2
  have hb3 := below_tr hbW hb2
  clear OA OB hbW
  have OA3 := OA2
  have OB3 := OB2
  obtain ⟨c0, c1, c2, c3, c4, f0⟩ := OA3
  obtain ⟨d0, d1, d2, d3, d4, g0⟩ := OB3
  by_cases g1 : 1 + m < s.size
  · have i1 : (1 : Int) + (m : Int) < (s.size : Int) := by omega
    have i2 : (2 : Int) + (m : Int) ≤ (s.size : Int) := by omega
    have i3 : (0 : Int) ≤ (m : Int) := by omega
    have hx2 : (s.extract (2 + m) s.size).size ≤ 100000 := by simp; omega
    go_wp2_with fail
    refine (rnumber_any (s.extract (2 + m) s.size) (by omega) _).mono ?_
    rintro e w3 ⟨⟨x2, m2, hN2, rfl⟩, hb4⟩
    rw [ext_drop] at hN2
    have hx : I64 x2 := hN2.1
    have HN2 := Lib.hid hN2
    clear hN2 c0 c1 c2 c3 d0 d1 d2 d3 f0 g0 c4 d4
    have OA4 := (OA2.far (by omega) 1 (.int .i64 v) (g' := w.heap.size + 1)).below hb4
    have OB4 := (OB2.set1 v).below hb4
    have hb5 := below_tr (hb3.setCell (p := ⟨w.heap.size + 1, 1, none⟩) (by simp) (.int .i64 v)) hb4
    have OA5 := OA4
    have OB5 := OB4
    obtain ⟨c0, c1, c2, c3, c4, f0⟩ := OA5
    obtain ⟨d0, d1, d2, d3, d4, g0⟩ := OB5
    go_wp2_with fail
    clear c0 c1 c2 c3 d0 d1 d2 d3
    have OA := OA4.far (by omega) 2 (.int .i64 x2) (g' := w.heap.size + 1)
    have OB := OB4.set2 x2
    have hbW := hb5.setCell (p := ⟨w.heap.size + 1, 2, none⟩) (by simp) (.int .i64 x2)
    obtain ⟨x, hx⟩ : ∃ x : ByteArray, textL 4 v x2 [] = x.data.toList := ⟨⟨(textL 4 v x2 []).toArray⟩, rfl⟩
    have HX := Lib.hid hx
    clear hx
    refine (rtext_is 4 v x2 hv hx ⟨#[]⟩ x HX.out _).mono ?_
    rintro e w9 ⟨rfl, hb9⟩
    obtain ⟨c0, c1, c2, c3, c4, f0⟩ := OA.below hb9
    obtain ⟨d0, d1, d2, d3, d4, g0⟩ := OB.below hb9
    have hbe := below_tr hbW hb9
    by_cases hxs : x.toList = s.toList
    · have HP := Lib.hid (cand_yes (k := 4) (n := v) (hi := x2) (t := []) HNE.out hv hx (by rw [HX.out, ← ByteArray.toList_eq, ← ByteArray.toList_eq]; exact hxs))
      have hxs' : (x.toList == s.toList) = true := by simpa using hxs
      clear hxs
      go_wp2_with fail
      refine bodyPost_ret (v := paV ⟨4, v, x2, [], true⟩) (by simp [results, Tryd.results38, go_sem, paV, c0, c1, c2, c3]) rfl ⟨by rw [HP.out], ?_⟩
      exact (((hbe.setCell (Nat.le_refl _) _).setCell (Nat.le_refl _) _).setCell (Nat.le_refl _) _).setCell (Nat.le_refl _) _
    · have HP := Lib.hid (cand_no (k := 4) (n := v) (hi := x2) (t := []) (l := s.data.toList) (cand_span N1.out N2.out N3.out K5.out HN.out (fun _ => HN2.out)) (by rw [HX.out, ← ByteArray.toList_eq, ← ByteArray.toList_eq]; exact hxs))
      have hxs' : (x.toList == s.toList) = false := by simpa using hxs
      clear hxs
      go_wp2_with fail
      refine bodyPost_ret (v := paV ⟨0, 0, 0, [], false⟩) (by simp [results, Tryd.results38, go_sem, paV, c0, c1, c2, c3]) rfl ⟨by rw [HP.out], ?_⟩
      exact (((hbe.setCell (Nat.le_refl _) _).setCell (Nat.le_refl _) _).setCell (Nat.le_refl _) _).setCell (Nat.le_refl _) _
  · have i1 : ¬ (1 : Int) + (m : Int) < (s.size : Int) := by omega
    go_wp2_with fail
    clear c0 c1 c2 c3 d0 d1 d2 d3
    have OA := OA2.far (by omega) 1 (.int .i64 v) (g' := w.heap.size + 1)
    have OB := OB2.set1 v
    have hbW := hb3.setCell (p := ⟨w.heap.size + 1, 1, none⟩) (by simp) (.int .i64 v)
    obtain ⟨x, hx⟩ : ∃ x : ByteArray, textL 4 v 0 [] = x.data.toList := ⟨⟨(textL 4 v 0 []).toArray⟩, rfl⟩
    have HX := Lib.hid hx
    clear hx
    refine (rtext_is 4 v 0 hv i64_0 ⟨#[]⟩ x HX.out _).mono ?_
    rintro e w9 ⟨rfl, hb9⟩
    obtain ⟨c0, c1, c2, c3, c4, f0⟩ := OA.below hb9
    obtain ⟨d0, d1, d2, d3, d4, g0⟩ := OB.below hb9
    have hbe := below_tr hbW hb9
    by_cases hxs : x.toList = s.toList
    · have HP := Lib.hid (cand_yes (k := 4) (n := v) (hi := 0) (t := []) HNE.out hv i64_0 (by rw [HX.out, ← ByteArray.toList_eq, ← ByteArray.toList_eq]; exact hxs))
      have hxs' : (x.toList == s.toList) = true := by simpa using hxs
      clear hxs
      go_wp2_with fail
      refine bodyPost_ret (v := paV ⟨4, v, 0, [], true⟩) (by simp [results, Tryd.results38, go_sem, paV, c0, c1, c2, c3]) rfl ⟨by rw [HP.out], ?_⟩
      exact (((hbe.setCell (Nat.le_refl _) _).setCell (Nat.le_refl _) _).setCell (Nat.le_refl _) _).setCell (Nat.le_refl _) _
    · have HP := Lib.hid (cand_no (k := 4) (n := v) (hi := 0) (t := []) (l := s.data.toList) (cand_span (m' := 0) N1.out N2.out N3.out K5.out HN.out (fun h => absurd h (by rw [L0.out]; exact g1))) (by rw [HX.out, ← ByteArray.toList_eq, ← ByteArray.toList_eq]; exact hxs))
      have hxs' : (x.toList == s.toList) = false := by simpa using hxs
      clear hxs
      go_wp2_with fail
      refine bodyPost_ret (v := paV ⟨0, 0, 0, [], false⟩) (by simp [results, Tryd.results38, go_sem, paV, c0, c1, c2, c3]) rfl ⟨by rw [HP.out], ?_⟩
      exact (((hbe.setCell (Nat.le_refl _) _).setCell (Nat.le_refl _) _).setCell (Nat.le_refl _) _).setCell (Nat.le_refl _) _

theorem rparse_any (s : ByteArray) (hz : s.size ≤ 100000) (w : World) :
    Calls Tryd.prog 38 #[.string s] w fun e w' => e = .returned (paV (parseR s.data.toList)) ∧ Below w.heap.size w w' := by
  by_cases h0 : s.toList = []
  · exact rparse_empty s h0 w
  by_cases h1 : s.toList = [110, 117, 108, 108]
  · exact rparse_null s h1 w
  by_cases h2 : s.toList = [121, 101, 115]
  · exact rparse_yes s h2 w
  by_cases h3 : s.toList = [110, 111]
  · exact rparse_no s h3 w
  have hpos : 0 < s.size := by
    rcases Nat.eq_zero_or_pos s.size with h | h
    · exact absurd (by rw [ByteArray.toList_eq]; exact List.eq_nil_of_length_eq_zero (by simpa using h)) h0
    · exact h
  cases h4 : ((s[0].toNat : Int) == 39) with
  | true => exact rparse_text s hz h0 h1 h2 h3 (fun _ => h4) w
  | false =>
    cases h5 : ((s[0].toNat : Int) == 91) with
    | true => exact rparse_span s hz h0 h1 h2 h3 (fun _ => h4) (fun _ => h5) w
    | false => exact rparse_int s hz h0 h1 h2 h3 (fun _ => h4) (fun _ => h5) w

end Go.Proofs.YtoglaibcmfjclaaDoor
