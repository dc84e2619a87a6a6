/-
  The text of a row: package row's Text and the document's own.
-/
import Derived.Test.YtenpjfkiehcjlaaGreatDoorWVal
import Derived.OwnWalk
namespace Go.Proofs.YtenpjfkiehcjlaaGreatDoor
open Go.RowKit

theorem info_s : (Tryz.prog.info? 9).map (fun i => (i.zero, i.size, i.bytes)) = some (some (.string ⟨#[]⟩), 1, 16) := by kernel_rfl

theorem make_s (w : World) (n : Nat) (hn : n ≤ 1000000) : ∃ w', (Instr.makeSlice 51 (.int .i64 0) (.int .i64 (n : Int))).run Tryz.prog w = .ok (.slice (some ⟨w.heap.size, 0, none⟩) 0 n) w' ∧ w'.ownsRow w.heap.size 9 1 (.slice (some ⟨w.heap.size, 0, none⟩) 0 n) 0 [] ∧ Below w.heap.size w w' := by
  obtain ⟨i0, hi, hz0, hz1, hz2⟩ := info_parts info_s
  obtain ⟨w', hrun, r1, r2⟩ := run_make_own (P := Tryz.prog) w w.heap.size 51 9 i0 (.string ⟨#[]⟩) 1 Tryz.underlying51 hi hz0 hz1 .i64 .i64 n (by rw [hz2]; omega) (by unfold maxLen; omega) (Nat.le_refl _)
  exact ⟨w', hrun, r1, (Below.refl _ w).grown r2 (Nat.le_refl _) (fun k e => by cases e)⟩

/-- One string more. -/
theorem app_str {W : World} {base : Nat} {s : Value} {xs : List ByteArray} (hb : base ≤ W.heap.size) (ho : W.ownsRow base 9 1 s xs.length (xs.map .string)) (hlen : xs.length ≤ 1000000) (p : ByteArray) :
    ∃ s' W', (Builtin.append_ #[51, 51] 51 #[s, .slice (some ⟨W.heap.size, 0, none⟩) 1 1]).run Tryz.prog (W.alloc (.cells #[.string p] 9)) = .ok s' W' ∧ W'.ownsRow base 9 1 s' (xs ++ [p]).length ((xs ++ [p]).map .string) ∧ Below base W W' := by
  obtain ⟨i0, hi, hz0, hz1, hz2⟩ := info_parts info_s
  obtain ⟨v', W4, hrun, o4, g34, _, _⟩ := run_append_own_at (P := Tryz.prog) (W.alloc (.cells #[.string p] 9)) base 51 51 9 i0 (.string ⟨#[]⟩) 1 16 Tryz.underlying51 hi hz0 hz1 hz2 rfl (by decide) s xs.length (xs.map .string) (ho.alloc _)
    ⟨W.heap.size, 0, none⟩ 1 1 [.string p] rfl
    (fun t u hu => by
      have ht : t < 1 := by have := (List.getElem?_eq_some_iff.1 hu).1; simpa using this
      obtain rfl : t = 0 := by omega
      simp at hu
      subst hu
      rw [Addr.add_lit]
      go_simp)
    (fun u hu => by simp at hu; subst hu; rfl)
    (by unfold maxLen; omega) (by omega) (by simp; omega)
  refine ⟨v', W4, hrun, ?_, (((Below.refl base W).alloc hb _).grown g34 (by simp; omega) (fun k e => (ho.lt k e).1))⟩
  rw [List.length_append, List.map_append]
  exact o4

def txB (v : Val) : ByteArray := ⟨(txV v).toArray⟩
theorem txB_list (v : Val) : txV v = (txB v).data.toList := by simp [txB]

theorem tx_empty (x : Val) : (txV x = [] ↔ mayV x = false) := by
  constructor
  · intro h
    cases hm : mayV x
    · rfl
    · exact absurd h (txV_ne x hm)
  · intro h
    show textL x.k x.n x.u x.t.data.toList = []
    unfold textL
    exact if_pos h

theorem take_snoc {l : List Val} {p : Nat} {x : Val} (hx : l[p]? = some x) : l.take (p + 1) = l.take p ++ [x] := by
  rw [List.take_add_one, hx]; rfl

theorem all_snoc {l : List Val} {p : Nat} {x : Val} (hx : l[p]? = some x) (h : (l.take p).all mayV = true) (hm : mayV x = true) : (l.take (p + 1)).all mayV = true := by
  rw [take_snoc hx, List.all_append, h]
  simp [hm]

theorem not_all {l : List Val} {p : Nat} {x : Val} (hx : l[p]? = some x) (hm : mayV x = false) : l.all mayV = false := by
  rw [List.all_eq_false]
  exact ⟨x, List.mem_of_getElem? hx, by simp [hm]⟩

theorem rowT_bad {l : List Val} (h : l.all mayV = false) : rowT l = [] := by
  unfold rowT; rw [h]; rfl

theorem rowT_good {l : List Val} (h : l.all mayV = true) : rowT l = 40 :: (jt l ++ [41]) := by
  unfold rowT; rw [if_pos h]

theorem empty_of {p : ByteArray} (h : p.data.toList = []) : p = ⟨#[]⟩ := by
  obtain ⟨⟨l⟩⟩ := p
  simp at h
  rw [h]

theorem of_list {p : ByteArray} {l : List UInt8} (h : l = p.data.toList) : p = ⟨l.toArray⟩ := by rw [h]

/-- Strings of a slice that owns its row, cell by cell. -/
theorem own_strs {W : World} {base : Nat} {s : Value} {xs : List ByteArray} (h : W.ownsRow base 9 1 s xs.length (xs.map .string)) : ∃ a c, s = .slice a xs.length c ∧ xs.length ≤ c ∧ (xs ≠ [] → ∃ g, a = some ⟨g, 0, none⟩ ∧ g < W.heap.size ∧ ∀ j x, xs[j]? = some x → W.cell? ⟨g, 0 + j, none⟩ = some (.string x)) := by
  rcases h.2 with ⟨h1, h2⟩ | ⟨g, cap, cur, rfl, hbg, hg, hnc, hcm, hcs, hxs⟩
  · refine ⟨none, 0, by rw [h2]; exact h1, by omega, fun hne => absurd (List.length_eq_zero_iff.1 h2) hne⟩
  · refine ⟨_, cap, rfl, hnc, fun _ => ⟨g, rfl, some_lt hg, fun j x hx => ?_⟩⟩
    have hj : j < xs.length := (List.getElem?_eq_some_iff.1 hx).1
    have e : (xs.map Value.string)[j]? = some (.string x) := by simp [hx]
    rw [← hxs, List.getElem?_take_of_lt (by omega)] at e
    rw [Nat.zero_add]
    simp [World.cell?, show W.heap[g]? = _ from hg]
    simpa using e

theorem join_is (s : Value) (base : Nat) (l : List Val) (hl : (jt l).length ≤ 100000) (hn : l.length ≤ 1000000) (W : World) (h : W.ownsRow base 9 1 s (l.map txB).length ((l.map txB).map .string)) :
    Calls Tryz.prog 42 #[s, .string ⟨#[44, 32]⟩] W fun e w' => e = .returned (.string ⟨(jt l).toArray⟩) ∧ Below W.heap.size W w' := by
  obtain ⟨a, c, rfl, hlc, hat⟩ := own_strs h
  have e : (l.map txB).map (fun x => x.data.toList) = l.map txV := by
    rw [List.map_map]
    refine List.map_congr_left fun v _ => ?_
    exact (txB_list v).symm
  have es : (⟨#[44, 32]⟩ : ByteArray).data.toList = [44, 32] := rfl
  by_cases hne : l.map txB = []
  · have hl0 : l = [] := by simpa using hne
    subst hl0
    refine (Tryz.strings_Join_none a c ⟨#[44, 32]⟩ W).mono ?_
    rintro e w' ⟨rfl, rfl⟩
    exact ⟨rfl, Below.refl _ _⟩
  · obtain ⟨g, rfl, hg, hc⟩ := hat hne
    have hlen : (Lib.join ((l.map txB).map (fun x => x.data.toList)) (⟨#[44, 32]⟩ : ByteArray).data.toList).length ≤ 140737488355328 := by
      rw [e, es]
      show (jt l).length ≤ _
      omega
    refine (Tryz.strings_Join g 0 c (l.map txB) ⟨#[44, 32]⟩ W hc hg (by rw [List.length_map]; omega) hlc hlen).mono ?_
    rintro e' w' ⟨rfl, hb⟩
    rw [e, es]
    exact ⟨rfl, hb⟩

theorem jt_take : ∀ (l : List Val) (p : Nat), (jt (l.take p)).length ≤ (jt l).length
  | [], p => by simp
  | [v], 0 => by simp [jt_nil]
  | [v], p + 1 => by simp
  | v :: w :: l, 0 => by simp [jt_nil]
  | v :: w :: l, 1 => by
    rw [show (v :: w :: l).take 1 = [v] from rfl, jt_one, jt_cons]
    simp
  | v :: w :: l, p + 2 => by
    have := jt_take (w :: l) (p + 1)
    rw [show (v :: w :: l).take (p + 2) = v :: w :: l.take p from rfl, jt_cons, jt_cons]
    rw [show (w :: l).take (p + 1) = w :: l.take p from rfl] at this
    simp only [List.length_append, List.length_cons]
    omega

set_option maxRecDepth 100000 in
set_option maxHeartbeats 1000000 in
theorem text_is (a : Option Addr) (c n : Nat) (l : List Val) (p : ByteArray) (hn : l.length = n) (hlen : n ≤ 100000) (hj : (jt l).length ≤ 100000) (hp : rowT l = p.data.toList) (w : World) (hg : GoodT w) (h1 : SlL w a c l) :
    Calls Tryz.prog 34 #[.slice a n c] w fun e w' => e = .returned (.string p) ∧ Below w.heap.size w w' := by
  obtain ⟨w1, hmk, ho, hb1⟩ := make_s w n (by omega)
  have HA := Lib.hid h1
  have HN := Lib.hid hn
  have HG := Lib.hid hg
  have HJ := Lib.hid hj
  have HP := Lib.hid hp
  have HO : Hid (w1.ownsRow w.heap.size 9 1 (.slice (some ⟨w.heap.size, 0, none⟩) 0 n) ((l.take 0).map txB).length (((l.take 0).map txB).map .string)) := Lib.hid ho
  have HB1 := Lib.hid hb1
  have hbn : n ≤ 9223372036854775807 := by omega
  clear h1 hn hg hj hp ho hb1
  go_enter Tryz.func34, Tryz.ntmps34
  go_wp2_with fail
  go_loopg [3, 12] n (fun gg s3 s12 wr => ∃ i : Nat, s12 = .int .i64 i ∧ i ≤ n ∧ n - i ≤ gg ∧ Hid (wr.ownsRow w.heap.size 9 1 s3 ((l.take i).map txB).length (((l.take i).map txB).map .string)) ∧ Hid ((l.take i).all mayV = true) ∧ Hid (Below w.heap.size w wr))
  case atStart => exact ⟨0, rfl, Nat.zero_le _, by omega, HO, Lib.hid rfl, HB1⟩
  case round =>
    obtain ⟨i, rfl, hin, hgg, OW, HM, BW⟩ := hrel
    clear HO HB1 hmk
    by_cases hlt : i < n
    · have hltz : (i : Int) < (n : Int) := by omega
      have z1 : ¬ n ≤ i := by omega
      obtain ⟨x, hx⟩ := get_is (l := l) (i := i) (by rw [HN.out]; exact hlt)
      obtain ⟨b, o, rfl, ha⟩ := at_l HA.out hx
      have hax := ha.below BW.out
      obtain ⟨d0, d1, d2, d3, d4⟩ := id hax
      obtain ⟨V, g, hV, hg, BX, hbV, hsV⟩ := boxX wr x
      obtain ⟨x0, x1, x2, x3, x4⟩ := id BX
      obtain ⟨t, ht⟩ : ∃ t, txB x = t := ⟨_, rfl⟩
      have htl : txV x = t.data.toList := by rw [← ht]; exact txB_list x
      have hcon := fun W (hW : Below wr.heap.size wr W) => text_v x (get_wf HA.out.wf hx) t htl W (HG.out.below (BW.out.trans (hW.mono BW.out.size)))
      have HBV := Lib.hid hbV
      have HT := Lib.hid ht
      have HTL := Lib.hid htl
      have HX := Lib.hid hx
      clear ha hx hbV BX hax ht htl
      go_wp2_with fail
      refine (hcon _ HBV.out).mono ?_
      rintro e w2 ⟨rfl, hb2⟩
      have HW2 := Lib.hid (below_tr HBV.out hb2)
      have HBW2 := Lib.hid (BW.out.trans (HW2.out.mono BW.out.size))
      clear hcon hb2 x0 x1 x2 x3 x4 d0 d1 d2 d3 d4
      cases hm : mayV x
      · have he : t = ⟨#[]⟩ := empty_of (by rw [← HTL.out]; exact (tx_empty x).2 hm)
        subst he
        have HMX := Lib.hid hm
        clear hm
        go_wp2_with fail
        go_ret
        obtain rfl : p = ⟨#[]⟩ := empty_of (by rw [← HP.out]; exact rowT_bad (not_all HX.out HMX.out))
        exact ⟨rfl, HBW2.out⟩
      · have hte : (t.toList == []) = false := by
          rw [ByteArray.toList_eq, ← HTL.out]
          have := txV_ne x hm
          cases h : txV x with
          | nil => exact absurd h this
          | cons a b => rfl
        have HMX := Lib.hid hm
        clear hm
        have hle : ((l.take i).map txB).length ≤ 1000000 := by rw [List.length_map, List.length_take]; omega
        obtain ⟨s', W', hrun, hO', hB'⟩ := app_str (W := w2) HBW2.out.size (OW.out.kept (grown_of_below HW2.out) (by cases u3.ownBlock <;> simp)) hle t
        have HRUN := Lib.hid hrun
        have HO' := Lib.hid hO'
        have HB' := Lib.hid (HBW2.out.trans hB')
        clear hrun hO' hB' hle
        go_wp2_with (at_builtin; refine append_stepW rfl _ _ 51 rfl _ _ _ _ rfl rfl HRUN.out ?_)
        go_roundg (n - (i + 1))
        case measure => omega
        case rel =>
          refine ⟨i + 1, by go_num, by omega, Nat.le_refl _, Lib.hid ?_, Lib.hid (all_snoc HX.out HM.out HMX.out), HB'⟩
          have h := HO'.out
          rw [← HT.out, show (l.take i).map txB ++ [txB x] = (l.take (i + 1)).map txB by rw [take_snoc HX.out, List.map_append]; rfl] at h
          exact h
    · have hltz : ¬ (i : Int) < (n : Int) := by omega
      have hti : l.take i = l := List.take_of_length_le (by rw [HN.out]; omega)
      have ho := OW.out
      rw [hti] at ho
      have hm := HM.out
      rw [hti] at hm
      have hcon := join_is u3 w.heap.size l HJ.out (by rw [HN.out]; omega) wr ho
      obtain ⟨jb, hjb⟩ : ∃ jb : ByteArray, (⟨(jt l).toArray⟩ : ByteArray) = jb := ⟨_, rfl⟩
      rw [hjb] at hcon
      have hjs : jb.size ≤ 100000 := by
        rw [← hjb]
        show (jt l).toArray.size ≤ _
        rw [List.size_toArray]
        exact HJ.out
      obtain rfl : p = (⟨#[40]⟩ ++ jb) ++ ⟨#[41]⟩ := by
        rw [of_list HP.out, rowT_good hm, ← hjb]
        have e2 := ba_app [40] (jt l)
        have e3 := ba_app ([40] ++ jt l) [41]
        rw [← e2] at e3
        exact e3.symm
      clear ho hm hti hjb HP
      go_wp2_with fail
      refine hcon.mono ?_
      rintro e w3 ⟨rfl, hb3⟩
      go_wp2_with fail
      go_ret
      exact ⟨rfl, BW.out.trans (hb3.mono BW.out.size)⟩

/-- The text as far as i values. -/
def halfR (l : List Val) (i : Nat) : ByteArray := ⟨(40 :: jt (l.take i)).toArray⟩

theorem halfR_zero (l : List Val) : halfR l 0 = ⟨#[40]⟩ := by simp [halfR, jt_nil]

theorem halfR_first {l : List Val} {x : Val} (hx : l[0]? = some x) : halfR l 1 = halfR l 0 ++ txB x := by
  unfold halfR txB
  rw [take_snoc hx, ba_app]
  simp [jt_one, jt_nil]

theorem halfR_next {l : List Val} {i : Nat} {x : Val} (hi : 0 < i) (hx : l[i]? = some x) : halfR l (i + 1) = halfR l i ++ ⟨#[44, 32]⟩ ++ txB x := by
  have hne : l.take i ≠ [] := by
    have h1 := (List.getElem?_eq_some_iff.1 hx).1
    intro e
    have h2 := congrArg List.length e
    rw [List.length_take, List.length_nil] at h2
    omega
  unfold halfR txB
  rw [take_snoc hx, jt_snoc _ _ hne, show (⟨#[44, 32]⟩ : ByteArray) = ⟨([44, 32] : List UInt8).toArray⟩ from rfl, ba_app, ba_app]
  simp

theorem halfR_size (l : List Val) (i : Nat) (h : (jt l).length ≤ 100000) : (halfR l i).size ≤ 100001 := by
  have := jt_take l i
  simp only [halfR, ByteArray.size, List.size_toArray, List.length_cons]
  omega

theorem halfR_all (l : List Val) (i : Nat) (hi : l.length ≤ i) (h : l.all mayV = true) : halfR l i ++ ⟨#[41]⟩ = ⟨(rowT l).toArray⟩ := by
  unfold halfR
  rw [List.take_of_length_le hi, rowT_good h, show (⟨#[41]⟩ : ByteArray) = ⟨([41] : List UInt8).toArray⟩ from rfl, ba_app]
  simp

set_option maxRecDepth 100000 in
set_option maxHeartbeats 1000000 in
theorem rtextr_is (a : Option Addr) (c n : Nat) (l : List Val) (p : ByteArray) (hn : l.length = n) (hlen : n ≤ 100000) (hj : (jt l).length ≤ 100000) (hp : rowT l = p.data.toList) (w : World) (h1 : SlL w a c l) :
    Calls Tryz.prog 35 #[.slice a n c] w fun e w' => e = .returned (.string p) ∧ Below w.heap.size w w' := by
  have HA := Lib.hid h1
  have HN := Lib.hid hn
  have HJ := Lib.hid hj
  have HP := Lib.hid hp
  have hbn : n ≤ 9223372036854775807 := by omega
  clear h1 hn hj hp
  go_enter Tryz.func35, Tryz.ntmps35
  go_wp2_with fail
  go_loopg [3, 4] n (fun gg s3 s4 wr => ∃ (i : Nat) (S : ByteArray), s4 = .int .i64 i ∧ s3 = .string S ∧ i ≤ n ∧ n - i ≤ gg ∧ Hid (halfR l i = S) ∧ Hid ((l.take i).all mayV = true) ∧ Hid (Below w.heap.size w wr))
  case atStart => exact ⟨0, _, rfl, rfl, Nat.zero_le _, by omega, Lib.hid (halfR_zero l), Lib.hid rfl, Lib.hid (Below.refl _ _)⟩
  case round =>
    obtain ⟨i, S, rfl, rfl, hin, hgg, HS, HM, BW⟩ := hrel
    have hss : S.size ≤ 100001 := by rw [← HS.out]; exact halfR_size l i HJ.out
    by_cases hlt : i < n
    · have hltz : (i : Int) < (n : Int) := by omega
      have z1 : ¬ n ≤ i := by omega
      obtain ⟨x, hx⟩ := get_is (l := l) (i := i) (by rw [HN.out]; exact hlt)
      obtain ⟨b, o, rfl, ha⟩ := at_l HA.out hx
      have hax := ha.below BW.out
      obtain ⟨d0, d1, d2, d3, d4⟩ := id hax
      have HAX := Lib.hid hax
      obtain ⟨m, hm⟩ : ∃ m, mayV x = m := ⟨_, rfl⟩
      have hcon0 := fun W => rmay_v x m hm W
      have HMX := Lib.hid hm
      have HX := Lib.hid hx
      have HWF := Lib.hid (get_wf HA.out.wf hx)
      clear ha hx hax hm
      cases m
      · go_wp2_with fail
        refine (hcon0 _).mono ?_
        rintro e w2 ⟨rfl, hb2⟩
        have HB2 := Lib.hid (BW.out.trans (hb2.mono BW.out.size))
        clear hcon0 hb2
        go_wp2_with fail
        go_ret
        obtain rfl : p = ⟨#[]⟩ := empty_of (by rw [← HP.out]; exact rowT_bad (not_all HX.out HMX.out))
        exact ⟨rfl, HB2.out⟩
      · go_wp2_with fail
        refine (hcon0 _).mono ?_
        rintro e w2 ⟨rfl, hb2⟩
        have HX2 := Lib.hid (HAX.out.below hb2)
        have HB2 := Lib.hid (BW.out.trans (hb2.mono BW.out.size))
        obtain ⟨e0, e1, e2, e3, e4⟩ := HX2.out
        clear hcon0 hb2 d0 d1 d2 d3 d4
        obtain ⟨t, ht⟩ : ∃ t, txB x = t := ⟨_, rfl⟩
        have htl : txV x = t.data.toList := by rw [← ht]; exact txB_list x
        have hcon := fun W => rtext_v x HWF.out t htl W
        have HT := Lib.hid ht
        by_cases hi0 : i = 0
        · subst hi0
          simp only [Nat.zero_mul, Nat.add_zero] at e0 e1 e2 e3
          have HE := Lib.hid (halfR_first HX.out)
          have hts : t.size ≤ 100001 := by
            have h1 := halfR_size l 1 HJ.out
            rw [HE.out, ByteArray.size_append, HT.out] at h1
            omega
          clear ht htl
          go_wp2_with fail
          refine (hcon _).mono ?_
          rintro e w3 ⟨rfl, hb3⟩
          have HB3 := Lib.hid (HB2.out.trans (hb3.mono HB2.out.size))
          clear hcon hb3 e0 e1 e2 e3 e4
          go_wp2_with fail
          go_roundg (n - (0 + 1))
          case measure => omega
          case rel => exact ⟨0 + 1, _, by go_num, rfl, by omega, Nat.le_refl _, Lib.hid (by rw [HE.out, HS.out, HT.out]), Lib.hid (all_snoc HX.out HM.out HMX.out), HB3⟩
        · have hiz : 0 < (i : Int) := by omega
          have HE := Lib.hid (halfR_next (by omega) HX.out)
          have hts : (S ++ ⟨#[44, 32]⟩).size + t.size ≤ 100001 := by
            have h1 := halfR_size l (i + 1) HJ.out
            rw [HE.out, HS.out, ByteArray.size_append, HT.out] at h1
            omega
          have hs2 : S.size + 2 + t.size ≤ 100001 := by rw [ByteArray.size_append] at hts; exact hts
          clear ht htl
          go_wp2_with fail
          refine (hcon _).mono ?_
          rintro e w3 ⟨rfl, hb3⟩
          have HB3 := Lib.hid (HB2.out.trans (hb3.mono HB2.out.size))
          clear hcon hb3 e0 e1 e2 e3 e4
          go_wp2_with fail
          go_roundg (n - (i + 1))
          case measure => omega
          case rel => exact ⟨i + 1, _, by go_num, rfl, by omega, Nat.le_refl _, Lib.hid (by rw [HE.out, HS.out, HT.out]), Lib.hid (all_snoc HX.out HM.out HMX.out), HB3⟩
    · have hltz : ¬ (i : Int) < (n : Int) := by omega
      obtain rfl : p = S ++ ⟨#[41]⟩ := by
        have hm := HM.out
        rw [List.take_of_length_le (by rw [HN.out]; omega)] at hm
        rw [of_list HP.out, ← HS.out, halfR_all l i (by rw [HN.out]; omega) hm]
      clear HP
      go_wp2_with fail
      go_ret
      exact ⟨rfl, BW.out⟩


end Go.Proofs.YtenpjfkiehcjlaaGreatDoor
