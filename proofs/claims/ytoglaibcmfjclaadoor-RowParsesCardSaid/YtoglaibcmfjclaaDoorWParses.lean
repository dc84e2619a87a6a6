/-
  The law RowParses, walked.
-/
import Derived.Test.YtoglaibcmfjclaaDoorWLaw1
namespace Go.Proofs.YtoglaibcmfjclaaDoor
open Go.RowKit

def lstO (o : Option (List Val)) : List Val := o.getD []
def errO (o : Option (List Val)) : Int := match o with | some _ => 0 | none => 4

/-- n values' cells of a block of the call's own may be written over. -/
structure Wr (W : World) (g n : Nat) : Prop where
  some' : ∀ t, t < n * 4 → (W.cell? ⟨g, t, none⟩).isSome = true
  fz : ∀ t, W.frozen? ⟨g, t, none⟩ = false

theorem isSome_set {W : World} {p a : Addr} {v : Value} (h : (W.cell? a).isSome = true) : ((W.setCell p v).cell? a).isSome = true := by
  by_cases e : p = a
  · subst e
    rw [World.cell?_setCell_same' _ _ _ h]
    rfl
  · rw [World.cell?_setCell_other _ _ _ _ e]
    exact h

theorem Wr.set {W : World} {g n : Nat} (h : Wr W g n) (p : Addr) (v : Value) : Wr (W.setCell p v) g n :=
  ⟨fun t ht => isSome_set (h.some' t ht), fun t => by rw [World.frozen?_setCell]; exact h.fz t⟩

theorem handed_row {W : World} {base : Nat} {o : Option (List Val)} {sv : Value} {e : Int} (hw : ∀ v ∈ lstO o, v.wf) (h : RowIs W base o sv e) :
    e = errO o ∧ ∃ al cl, sv = .slice al (lstO o).length cl ∧ SlL W al cl (lstO o) ∧ (0 < (lstO o).length → ∃ g, al = some ⟨g, 0, none⟩ ∧ base ≤ g ∧ Wr W g (lstO o).length) := by
  cases o with
  | none =>
    obtain ⟨h1, h2⟩ := rowIs_none h
    exact ⟨h1, none, 0, h2, SlL.nil _ _ _ (Nat.zero_le _), fun h => absurd h (Nat.lt_irrefl _)⟩
  | some L =>
    obtain ⟨h1, h2⟩ := rowIs_some h
    refine ⟨h1, ?_⟩
    show ∃ al cl, sv = .slice al L.length cl ∧ SlL W al cl L ∧ (0 < L.length → ∃ g, al = some ⟨g, 0, none⟩ ∧ base ≤ g ∧ Wr W g L.length)
    rcases own_row h2 with ⟨e1, e2⟩ | ⟨g, cap, e1, e2, e3, e4, e5, e6, e7⟩
    · subst e2
      exact ⟨none, 0, e1, SlL.nil _ _ _ (Nat.zero_le _), fun h => absurd h (Nat.lt_irrefl _)⟩
    · refine ⟨_, cap, e1, ⟨e2, e3, fun _ => ⟨g, 0, rfl, e5⟩, hw⟩, fun _ => ⟨g, rfl, e4, fun t ht => ?_, e6⟩⟩
      obtain ⟨x, hx⟩ := get_is (l := L) (i := t / 4) (by omega)
      obtain ⟨d0, d1, d2, d3, _⟩ := e5 (t / 4) x hx
      have e : t = 0 + t / 4 * 4 + t % 4 := by omega
      rw [e]
      have : t % 4 < 4 := Nat.mod_lt _ (by decide)
      rcases (show t % 4 = 0 ∨ t % 4 = 1 ∨ t % 4 = 2 ∨ t % 4 = 3 by omega) with h | h | h | h <;> rw [h]
      · rw [Nat.add_zero, d0]; rfl
      · rw [d1]; rfl
      · rw [d2]; rfl
      · rw [d3]; rfl

set_option maxRecDepth 100000 in
set_option maxHeartbeats 4000000 in
theorem parses_big (s : ByteArray) (hs : 3000 < s.size) (hs2 : s.size ≤ 140737488351232) (w : World) :
    Calls Tryd.prog 5 #[.string s] w fun e w' => e = .returned (.bool true) ∧ Below w.heap.size w w' := by
  have hsz : 3000 < (s.size : Int) := by omega
  go_enter Tryd.func5, Tryd.ntmps5
  go_wp2_with fail
  go_ret
  exact ⟨rfl, Below.refl _ _⟩

set_option maxRecDepth 100000 in
set_option maxHeartbeats 8000000 in
theorem parses_small (s : ByteArray) (hs : s.size ≤ 3000) (w : World) (hg : Good w) :
    Calls Tryd.prog 5 #[.string s] w fun e w' => e = .returned (.bool true) ∧ Below w.heap.size w w' := by
  have hsz : ¬ 3000 < (s.size : Int) := by omega
  have HSS := Lib.hid hs
  have HG := Lib.hid hg
  have hcon := rprow_is s hs w
  have hwf : ∀ v ∈ lstO (rowP s.data.toList), v.wf := by
    cases hr : rowP s.data.toList with
    | none => exact fun _ h => absurd h List.not_mem_nil
    | some L => exact (rowP_wf hr).2.2
  have HW := Lib.hid hwf
  clear hg hwf
  go_enter Tryd.func5, Tryd.ntmps5
  go_wp2_with fail
  refine hcon.mono ?_
  rintro e w1 ⟨sv, er, rfl, hri, hb1⟩
  obtain ⟨rfl, al, cl, rfl, hsl, _⟩ := handed_row HW.out hri
  obtain ⟨L, hL⟩ : ∃ L, lstO (rowP s.data.toList) = L := ⟨_, rfl⟩
  obtain ⟨n, hn⟩ : ∃ n, L.length = n := ⟨_, rfl⟩
  obtain ⟨er, her⟩ : ∃ er, errO (rowP s.data.toList) = er := ⟨_, rfl⟩
  have hnb : n ≤ 9223372036854775807 := by
    have a := hsl.lc
    have b := hsl.cm
    rw [hL, hn] at a
    unfold maxLen at b
    omega
  rw [hL] at hsl
  rw [hL, hn, her]
  have HL := Lib.hid hL
  have HN := Lib.hid hn
  have HER := Lib.hid her
  have HS := Lib.hid hsl
  have HB1 := Lib.hid hb1
  clear hcon hri hsl hb1 hL hn her
  go_wp2_with fail
  go_loopg [5] 2 (fun gg s5 wr => ∃ r : Nat, s5 = .int .i64 r ∧ r ≤ 2 ∧ 2 - r ≤ gg ∧ Hid (Below w1.heap.size w1 wr))
  case atStart => exact ⟨0, rfl, by omega, by omega, Lib.hid (Below.refl _ _)⟩
  case round =>
    obtain ⟨r, rfl, hr2, hgg, BW⟩ := hrel
    by_cases hlt : r < 2
    · have hltz : (r : Int) < 2 := by omega
      obtain ⟨wo, hwo⟩ : ∃ wo, wo = wr := ⟨_, rfl⟩
      subst hwo
      have hcon := rparseR_is s (by have := HSS.out; omega) wo (HG.out.below (HB1.out.trans (BW.out.mono HB1.out.size)))
      go_wp2_with fail
      refine hcon.mono ?_
      rintro e w2 ⟨sv2, er2, rfl, hri2, hb2⟩
      obtain ⟨rfl, a2, c2, rfl, hsl2, hwr⟩ := handed_row HW.out hri2
      rw [HL.out] at hsl2 hwr
      rw [HL.out, HN.out, HER.out]
      rw [HN.out] at hwr
      have HB2 : Hid (Below w1.heap.size w1 w2) := Lib.hid (BW.out.trans (hb2.mono BW.out.size))
      have HWR : Hid (0 < n → ∃ g, a2 = some ⟨g, 0, none⟩ ∧ w1.heap.size ≤ g ∧ Wr w2 g n) := Lib.hid (fun h => by
        obtain ⟨g, h1, h2, h3⟩ := hwr h
        exact ⟨g, h1, Nat.le_trans BW.out.size h2, h3⟩)
      have hcs := rsame_is a2 al c2 cl n n L L true HN.out HN.out (by simp) w2 hsl2 (HS.out.below HB2.out)
      clear hcon hri2 hsl2 hwr hb2
      go_wp2_with fail
      refine hcs.mono ?_
      rintro e w3 ⟨rfl, hb3⟩
      have HB3 : Hid (Below w1.heap.size w1 w3) := Lib.hid (HB2.out.trans (hb3.mono HB2.out.size))
      have HWR3 : Hid (0 < n → ∃ g, a2 = some ⟨g, 0, none⟩ ∧ w1.heap.size ≤ g ∧ Wr w3 g n) := Lib.hid (fun h => by
        obtain ⟨g, h1, h2, h3⟩ := HWR.out h
        have hgl : g < w2.heap.size := by
          have hx := h3.some' 0 (by omega)
          cases hc : w2.cell? ⟨g, 0, none⟩ with
          | none => rw [hc] at hx; cases hx
          | some v => exact cell_lt hc
        exact ⟨g, h1, h2, fun t ht => by rw [hb3.cell (p := ⟨g, t, none⟩) hgl]; exact h3.some' t ht, fun t => by rw [hb3.frozen (p := ⟨g, t, none⟩) hgl]; exact h3.fz t⟩)
      clear hcs hb3
      go_wp2_with fail
      go_loopg [8] n (fun gg s8 wr => ∃ i : Nat, s8 = .int .i64 i ∧ i ≤ n ∧ n - i ≤ gg ∧ Hid (Below w1.heap.size w1 wr) ∧ Hid (0 < n → ∃ g, a2 = some ⟨g, 0, none⟩ ∧ w1.heap.size ≤ g ∧ Wr wr g n))
      case atStart => exact ⟨0, rfl, Nat.zero_le _, by omega, HB3, HWR3⟩
      case round =>
        obtain ⟨i, rfl, hin, hgg2, BI, WI⟩ := hrel
        by_cases hli : i < n
        · have hliz : (i : Int) < (n : Int) := by omega
          have z1 : ¬ n ≤ i := by omega
          obtain ⟨g, rfl, hgb, hw⟩ := WI.out (by omega)
          obtain ⟨x0, d0⟩ := Option.isSome_iff_exists.1 (hw.some' (i * 4) (by omega))
          obtain ⟨x1, d1⟩ := Option.isSome_iff_exists.1 (hw.some' (i * 4 + 1) (by omega))
          obtain ⟨x2, d2⟩ := Option.isSome_iff_exists.1 (hw.some' (i * 4 + 2) (by omega))
          obtain ⟨x3, d3⟩ := Option.isSome_iff_exists.1 (hw.some' (i * 4 + 3) (by omega))
          have f0 := hw.fz (i * 4)
          have f1 := hw.fz (i * 4 + 1)
          have f2 := hw.fz (i * 4 + 2)
          have f3 := hw.fz (i * 4 + 3)
          have HWI := Lib.hid hw
          clear hw
          go_wp2_with fail
          go_roundg (n - (i + 1))
          case measure => omega
          case rel =>
            refine ⟨i + 1, by go_num, by omega, Nat.le_refl _, Lib.hid ?_, Lib.hid (fun _ => ⟨g, rfl, hgb, (((HWI.out.set _ _).set _ _).set _ _).set _ _⟩)⟩
            exact (((BI.out.setCell (by exact hgb) _).setCell (by exact hgb) _).setCell (by exact hgb) _).setCell (by exact hgb) _
        · have hliz : ¬ (i : Int) < (n : Int) := by omega
          go_wp2_with fail
          go_roundg (2 - (r + 1))
          case measure => omega
          case rel => exact ⟨r + 1, by go_num, by omega, Nat.le_refl _, BI⟩
    · have hltz : ¬ (r : Int) < 2 := by omega
      go_wp2_with fail
      go_ret
      exact ⟨rfl, HB1.out.trans (BW.out.mono HB1.out.size)⟩

theorem parses_law (s : ByteArray) (hs : s.size ≤ 140737488351232) (w : World) (hg : Good w) :
    Calls Tryd.prog 5 #[.string s] w fun e w' => e = .returned (.bool true) ∧ Below w.heap.size w w' := by
  by_cases h : 3000 < s.size
  · exact parses_big s h hs w
  · exact parses_small s (by omega) w hg

end Go.Proofs.YtoglaibcmfjclaaDoor
