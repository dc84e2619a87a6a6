/-
  What the laws' own helpers says, none and works answer.
-/
import Derived.Test.YtoglaibcmfjclaaDoorWRPar2
import Derived.Test.YtoglaibcmfjclaaDoorWFits
namespace Go.Proofs.YtoglaibcmfjclaaDoor
open Go.RowKit

theorem rowIs_some {W : World} {base : Nat} {L : List Val} {sv : Value} {e : Int} (h : RowIs W base (some L) sv e) : e = 0 ∧ W.ownsRow base 25 4 sv L.length (flatL L) := h
theorem rowIs_none {W : World} {base : Nat} {sv : Value} {e : Int} (h : RowIs W base none sv e) : e = 4 ∧ sv = .slice none 0 0 := h

theorem rowIs_sl {W : World} {base : Nat} {L : List Val} {sv : Value} {e : Int} (hw : ∀ v ∈ L, v.wf) (h : RowIs W base (some L) sv e) : e = 0 ∧ ∃ a c, sv = .slice a L.length c ∧ SlL W a c L := ⟨h.1, own_sl hw h.2⟩

theorem rowP_wf {s : List UInt8} {L : List Val} (h : rowP s = some L) : L.all mayV = true ∧ rowT L = s ∧ ∀ v ∈ L, v.wf := by
  refine ⟨(rowT_rowP h).1, (rowT_rowP h).2, ?_⟩
  rw [← refP_eq] at h
  unfold refP at h
  split at h
  · cases hg : goR s.length [] (restL s (s.length - 1) 1) with
    | none => rw [hg] at h; cases h
    | some m =>
      rw [hg] at h
      simp only at h
      split at h
      · rw [Option.some.injEq] at h
        subst h
        obtain ⟨m', e, h3, _⟩ := goR_text _ _ _ _ hg
        rw [List.nil_append] at e
        subst e
        exact fun v hv => (h3 v hv).2
      · cases h
  · cases h

theorem rprow_is (s : ByteArray) (hs : s.size ≤ 3000) (w : World) :
    Calls Tryd.prog 25 #[.string s] w fun e w' => ∃ sv er, e = .returned (.tuple #[sv, .int .i64 er]) ∧ RowIs w' w.heap.size (rowP s.data.toList) sv er ∧ Below w.heap.size w w' := by
  have bad : rowP s.data.toList = none → (Calls Tryd.prog 25 #[.string s] w fun e w' => e = .returned (.tuple #[.slice none 0 0, .int .i64 4]) ∧ Below w.heap.size w w') → Calls Tryd.prog 25 #[.string s] w fun e w' => ∃ sv er, e = .returned (.tuple #[sv, .int .i64 er]) ∧ RowIs w' w.heap.size (rowP s.data.toList) sv er ∧ Below w.heap.size w w' :=
    fun hr h => h.mono fun e w' ⟨h1, h2⟩ => ⟨_, _, h1, by rw [hr]; exact ⟨rfl, rfl⟩, h2⟩
  by_cases h : s.size < 2
  · exact bad (rowP_open (.inl h)) (rprow_short s h w)
  · have h0 : 0 < s.size := by omega
    have h1 : s.size - 1 < s.size := by omega
    cases hc : ((s[0].toNat : Int) != 40) with
    | true => exact bad (rowP_open (.inr ⟨by omega, .inl ⟨h0, hc⟩⟩)) (rprow_first s (by omega) hs h0 hc w)
    | false =>
      cases hc1 : ((s[s.size - 1].toNat : Int) != 41) with
      | true => exact bad (rowP_open (.inr ⟨by omega, .inr ⟨h1, hc1⟩⟩)) (rprow_last s (by omega) hs h0 hc h1 hc1 w)
      | false => exact rprow_ok s (by omega) hs h0 hc h1 hc1 w

theorem number_is (n : Int) (w : World) : Calls Tryd.prog 14 #[.int .i64 n] w fun e w' => e = .returned (.agg #[.int .u8 1, .int .i64 n, .int .i64 0, .string ⟨#[]⟩]) ∧ Below w.heap.size w w' := by
  go_enter Tryd.func14, Tryd.ntmps14
  go_wp2
  exact bodyPost_ret (v := .agg #[.int .u8 1, .int .i64 n, .int .i64 0, .string ⟨#[]⟩]) (by simp [results, Tryd.results14, go_sem]) rfl ⟨rfl, Below.allocs _ _⟩

theorem ltext_is (t : ByteArray) (w : World) : Calls Tryd.prog 13 #[.string t] w fun e w' => e = .returned (.agg #[.int .u8 3, .int .i64 0, .int .i64 0, .string t]) ∧ Below w.heap.size w w' := by
  go_enter Tryd.func13, Tryd.ntmps13
  go_wp2
  exact bodyPost_ret (v := .agg #[.int .u8 3, .int .i64 0, .int .i64 0, .string t]) (by simp [results, Tryd.results13, go_sem]) rfl ⟨rfl, Below.allocs _ _⟩

set_option maxRecDepth 100000 in
set_option maxHeartbeats 1000000 in
theorem says_is (s : ByteArray) (hs : s.size ≤ 3000) (a : Option Addr) (c n : Nat) (l : List Val) (hn : l.length = n) (hm : l.all mayV = true) (ht : rowT l = s.data.toList) (w : World) (hg : Good w) (h1 : SlL w a c l) :
    Calls Tryd.prog 12 #[.string s, .slice a n c] w fun e w' => e = .returned (.bool true) ∧ Below w.heap.size w w' := by
  have hr : rowP s.data.toList = some l := by rw [← ht]; exact rowP_rowT l hm h1.wf
  have hlen : (jt l).length ≤ 100000 ∧ n ≤ 100000 := by
    have e : s.size = s.data.toList.length := rfl
    rw [← ht, rowT_good hm] at e
    have := jt_count l (fun v hv => List.all_eq_true.1 hm v hv)
    simp at e
    omega
  have hp := rparseR_is s (by omega) w hg
  rw [hr] at hp
  have HN := Lib.hid hn
  have HT := Lib.hid ht
  have HG := Lib.hid hg
  have HA := Lib.hid h1
  have HL := Lib.hid hlen
  clear hn hm ht hg h1 hr hlen
  go_enter Tryd.func12, Tryd.ntmps12
  go_wp2_with fail
  refine hp.mono ?_
  rintro e w1 ⟨sv, er, rfl, hri, hb1⟩
  obtain ⟨rfl, a', c', rfl, hsl⟩ := rowIs_sl HA.out.wf hri
  have hct := fun W (hW : Below w1.heap.size w1 W) => text_is a c n l s HN.out HL.out.2 HL.out.1 HT.out W ((HG.out.below hb1).below hW).toGoodT ((HA.out.below hb1).below hW)
  have HS := Lib.hid hsl
  have HB1 := Lib.hid hb1
  clear hp hri hsl hb1
  go_wp2_with fail
  refine (hct _ (Below.refl _ _)).mono ?_
  rintro e w2 ⟨rfl, hb2⟩
  have hcs := fun W (hW : Below w2.heap.size w2 W) => rsame_is a a' c c' n l.length l l true HN.out rfl (by simp) W (((HA.out.below HB1.out).below hb2).below hW) ((HS.out.below hb2).below hW)
  have HB2 := Lib.hid (below_tr HB1.out hb2)
  clear hct hb2
  go_wp2_with fail
  refine (hcs _ (Below.refl _ _)).mono ?_
  rintro e w3 ⟨rfl, hb3⟩
  go_wp2_with fail
  go_ret
  exact ⟨rfl, below_tr HB2.out hb3⟩

set_option maxRecDepth 100000 in
set_option maxHeartbeats 1000000 in
theorem none_is (s : ByteArray) (hs : s.size ≤ 100000) (hr : rowP s.data.toList = none) (w : World) (hg : Good w) :
    Calls Tryd.prog 15 #[.string s] w fun e w' => e = .returned (.bool true) ∧ Below w.heap.size w w' := by
  have hp := rparseR_is s hs w hg
  rw [hr] at hp
  clear hr
  go_enter Tryd.func15, Tryd.ntmps15
  go_wp2_with fail
  refine hp.mono ?_
  rintro e w1 ⟨sv, er, rfl, hri, hb1⟩
  obtain ⟨rfl, rfl⟩ := rowIs_none hri
  clear hp hri
  go_wp2_with fail
  go_ret
  exact ⟨rfl, hb1⟩

/-- A new list of values. -/
theorem newL (w : World) (l : List Val) (hw : ∀ x ∈ l, x.wf) (hl : l.length ≤ 1000000) : SlL (w.alloc (.cells (flatL l).toArray 25)) (some ⟨w.heap.size, 0, none⟩) l.length l := by
  refine ⟨Nat.le_refl _, by unfold maxLen; omega, fun _ => ⟨w.heap.size, 0, rfl, fun i x hx => atV_of (fun c u hu => ?_) (by simp)⟩, hw⟩
  have hc : c < 4 := by have := (List.getElem?_eq_some_iff.1 hu).1; simpa [encV] using this
  have := flatL_get l i c x hx hc
  rw [hu] at this
  rw [World.cell?_alloc_at _ _ _ _ (by simp)]
  simpa using this

def v1 : Val := ⟨1, 1, 0, ⟨#[]⟩⟩
def va : Val := ⟨3, 0, 0, ⟨#[97]⟩⟩

theorem wf1 : v1.wf := ⟨by decide, by decide, i64_1, i64_0, by decide⟩
theorem wfa : va.wf := ⟨by decide, by decide, i64_0, i64_0, by decide⟩
theorem wf0 : Val.zero.wf := ⟨by decide, by decide, i64_0, i64_0, by decide⟩

theorem g1 : rowT [v1, va, Val.zero] = [40, 49, 44, 32, 39, 97, 39, 44, 32, 110, 117, 108, 108, 41] := by decide +kernel
theorem g1m : ([v1, va, Val.zero] : List Val).all mayV = true := by decide +kernel
theorem g2 : rowT [] = [40, 41] := by decide +kernel
theorem none_of {s : List UInt8} (h : (rowP s).isNone = true) : rowP s = none := by simpa using h
theorem g3 : rowP [40, 49, 44, 50, 41] = none := none_of (by decide +kernel)
theorem g4 : rowP [40, 49, 44, 32, 41] = none := none_of (by decide +kernel)
theorem g5 : rowP [49] = none := none_of (by decide +kernel)
theorem g6 : cmpL [v1] [v1, Val.zero] = -1 := by decide +kernel

set_option maxRecDepth 100000 in
set_option maxHeartbeats 2000000 in
theorem works_is (w : World) (hg : Good w) :
    Calls Tryd.prog 11 #[] w fun e w' => e = .returned (.bool true) ∧ Below w.heap.size w w' := by
  have HG := Lib.hid hg
  clear hg
  go_enter Tryd.func11, Tryd.ntmps11
  go_wp2_with fail
  refine (number_is 1 _).mono ?_
  rintro e w1 ⟨rfl, hb1⟩
  have HB1 := Lib.hid hb1
  clear hb1
  go_wp2_with fail
  refine (ltext_is ⟨#[97]⟩ _).mono ?_
  rintro e w2 ⟨rfl, hb2⟩
  have HB2 := Lib.hid (below_tr HB1.out hb2)
  have hn2 := newL w2 [v1, va, Val.zero] (by intro x hx; simp at hx; rcases hx with rfl | rfl | rfl; exact wf1; exact wfa; exact wf0) (by simp)
  have hal := Below.allocs w2 (.cells (flatL [v1, va, Val.zero]).toArray 25)
  have hcon := says_is ⟨#[40, 49, 44, 32, 39, 97, 39, 44, 32, 110, 117, 108, 108, 41]⟩ (by decide) _ _ 3 [v1, va, Val.zero] rfl g1m g1 _ ((HG.out.below HB2.out).below hal) hn2
  have HB3 := Lib.hid (below_tr HB2.out hal)
  clear hb2 hn2 hal
  go_wp2_with fail
  refine (show Calls Tryd.prog _ _ _ _ from hcon).mono ?_
  rintro e w3 ⟨rfl, hb3⟩
  have HB4 := Lib.hid (below_tr HB3.out hb3)
  have hcon2 := says_is ⟨#[40, 41]⟩ (by decide) none 0 0 [] rfl rfl g2 _ (HG.out.below HB4.out) (SlL.nil _ _ _ (Nat.zero_le _))
  clear hcon hb3
  go_wp2_with fail
  refine hcon2.mono ?_
  rintro e w4 ⟨rfl, hb4⟩
  have HB5 := Lib.hid (below_tr HB4.out hb4)
  have hcon3 := none_is ⟨#[40, 49, 44, 50, 41]⟩ (by decide) g3 _ (HG.out.below HB5.out)
  clear hcon2 hb4
  go_wp2_with fail
  refine hcon3.mono ?_
  rintro e w5 ⟨rfl, hb5⟩
  have HB6 := Lib.hid (below_tr HB5.out hb5)
  have hcon4 := none_is ⟨#[40, 49, 44, 32, 41]⟩ (by decide) g4 _ (HG.out.below HB6.out)
  clear hcon3 hb5
  go_wp2_with fail
  refine hcon4.mono ?_
  rintro e w6 ⟨rfl, hb6⟩
  have HB7 := Lib.hid (below_tr HB6.out hb6)
  have hcon5 := none_is ⟨#[49]⟩ (by decide) g5 _ (HG.out.below HB7.out)
  clear hcon4 hb6
  go_wp2_with fail
  refine hcon5.mono ?_
  rintro e w7 ⟨rfl, hb7⟩
  have HB8 := Lib.hid (below_tr HB7.out hb7)
  clear hcon5 hb7
  go_wp2_with fail
  refine (number_is 1 _).mono ?_
  rintro e w8 ⟨rfl, hb8⟩
  have HB9 := Lib.hid (below_tr HB8.out hb8)
  have HN8 := Lib.hid (newL w8 [v1] (by intro x hx; simp at hx; rw [hx]; exact wf1) (by simp))
  have HAL := Lib.hid (Below.allocs w8 (.cells (flatL [v1]).toArray 25))
  clear hb8
  go_wp2_with fail
  refine (number_is 1 _).mono ?_
  rintro e w9 ⟨rfl, hb9⟩
  have HBA : Hid (Below w.heap.size w w9) := Lib.hid (below_tr (below_tr HB9.out HAL.out) hb9)
  have HN9 := Lib.hid (HN8.out.below hb9)
  have hn10 := newL w9 [v1, Val.zero] (by intro x hx; simp at hx; rcases hx with rfl | rfl; exact wf1; exact wf0) (by simp)
  have hal2 := Below.allocs w9 (.cells (flatL [v1, Val.zero]).toArray 25)
  have hcon6 := comp_is _ _ _ _ 1 2 [v1] [v1, Val.zero] (-1) rfl rfl g6 _ (HN9.out.below hal2) hn10
  have HBB := Lib.hid (below_tr HBA.out hal2)
  clear hb9 hn10 hal2
  go_wp2_with fail
  refine (show Calls Tryd.prog _ _ _ _ from hcon6).mono ?_
  rintro e w10 ⟨rfl, hb10⟩
  clear hcon6
  go_wp2_with fail
  go_ret
  exact ⟨rfl, below_tr HBB.out hb10⟩

end Go.Proofs.YtoglaibcmfjclaaDoor
