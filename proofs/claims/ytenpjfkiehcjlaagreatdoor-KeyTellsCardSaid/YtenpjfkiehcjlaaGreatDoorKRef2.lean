/-
  The document's own Set; copies made by append; spoil.
-/
import Derived.Test.YtenpjfkiehcjlaaGreatDoorKRef
namespace Go.Proofs.YtenpjfkiehcjlaaGreatDoor
open Go.RowKit

/-- Which operation it is: looked at ahead of its law (a law that does not fit is unfolded without end). -/
theorem append_dst {ops : Array Oper} {rest : List Oper} {o : Oper} {a : Act} {w : World} {Q : Exit → Act → World → Prop} (k : Tmp) (_ : o.dst = some k) (h : wpList Tryz.prog ops Q (o :: rest) a w) : wpList Tryz.prog ops Q (o :: rest) a w := h

/-- A copy of a row, made by append onto an empty one. -/
theorem one_app {W : World} {a : Option Addr} {c : Nat} {l : List Val} (h1 : SlL W a c l) (hl : l.length ≤ 1000000) :
    ∃ a1 c1 W1, (Builtin.append_ #[22, 22] 22 #[.slice (some ⟨W.heap.size, 0, none⟩) 0 0, .slice a l.length c]).run Tryz.prog (W.alloc (.cells #[] 37)) = .ok (.slice a1 l.length c1) W1 ∧ SlL W1 a1 c1 l ∧ Below W.heap.size W W1 := by
  have hal := Below.allocs W (.cells #[] 37)
  have ho := World.ownsRow_made (base := W.heap.size) (e := 37) (size := 4) W #[] 0 (Nat.le_refl _) (Nat.zero_le _) (by simp)
  obtain ⟨s1, W1, hr1, ho1, hb1, ⟨a1, c1, rfl⟩, _⟩ := app_run (W := W.alloc (.cells #[] 37)) (base := W.heap.size) (l := []) (m := l) hal.size ho (h1.below hal) (by simp; omega) (fun _ h => absurd h List.not_mem_nil)
  rw [List.nil_append] at hr1 ho1
  obtain ⟨a3, c3, e, hsl⟩ := own_sl h1.wf ho1
  cases e
  exact ⟨a1, c1, W1, hr1, hsl, hal.trans hb1⟩

/-- The same, as a row that may be written. -/
theorem one_own {W : World} {a : Option Addr} {c : Nat} {l : List Val} (h1 : SlL W a c l) (hne : l ≠ []) (hl : l.length ≤ 1000000) :
    ∃ g cap W1, (Builtin.append_ #[22, 22] 22 #[.slice (some ⟨W.heap.size, 0, none⟩) 0 0, .slice a l.length c]).run Tryz.prog (W.alloc (.cells #[] 37)) = .ok (.slice (some ⟨g, 0, none⟩) l.length cap) W1 ∧ l.length ≤ cap ∧ cap ≤ maxLen ∧ W.heap.size ≤ g ∧ Own W1 g l ∧ Below W.heap.size W W1 := by
  have hal := Below.allocs W (.cells #[] 37)
  have ho := World.ownsRow_made (base := W.heap.size) (e := 37) (size := 4) W #[] 0 (Nat.le_refl _) (Nat.zero_le _) (by simp)
  obtain ⟨s1, W1, hr1, ho1, hb1, _, _⟩ := app_run (W := W.alloc (.cells #[] 37)) (base := W.heap.size) (l := []) (m := l) hal.size ho (h1.below hal) (by simp; omega) (fun _ h => absurd h List.not_mem_nil)
  rw [List.nil_append] at ho1
  rcases own_row ho1 with ⟨_, e⟩ | ⟨g, cap, rfl, h2, h3, h4, h5, h6, h7⟩
  · exact absurd e hne
  · exact ⟨g, cap, W1, hr1, h2, h3, h4, ⟨h5, h6, h7⟩, hal.trans hb1⟩

/-- A copy of a list of numbers, made by append onto an empty one. -/
theorem one_appI {W : World} {a : Option Addr} {c : Nat} {l : List Int} (h1 : SlI W a c l) (hl : l.length ≤ 1000000) :
    ∃ a1 c1 W1, (Builtin.append_ #[23, 23] 23 #[.slice (some ⟨W.heap.size, 0, none⟩) 0 0, .slice a l.length c]).run Tryz.prog (W.alloc (.cells #[] 3)) = .ok (.slice a1 l.length c1) W1 ∧ SlI W1 a1 c1 l ∧ Below W.heap.size W W1 := by
  obtain ⟨i0, hi, hz0, hz1, hz2⟩ := info_parts info_i
  have hal := Below.allocs W (.cells #[] 3)
  have ho := World.ownsRow_made (base := W.heap.size) (e := 3) (size := 1) W #[] 0 (Nat.le_refl _) (Nat.zero_le _) (by simp)
  cases a with
  | none =>
    have hnil : l = [] := by
      cases l with
      | nil => rfl
      | cons x l => obtain ⟨b, o, e, _⟩ := h1.at' (by simp); cases e
    subst hnil
    have hu : Tryz.prog.underlying 23 = some (.slice 3) := Tryz.underlying23
    refine ⟨some ⟨W.heap.size, 0, none⟩, 0, _, ?_, SlI.nil _ _ _ (by decide), hal⟩
    simp [Builtin.append_, run_underlying hu, sizeOf, typeInfo, hi, Builtin.lenOf, Builtin.firstCells, loadCells, storeCells]
  | some ad =>
    obtain ⟨v', W', hrun, h2, hg, _, _⟩ := run_append_own_at (P := Tryz.prog) (W.alloc (.cells #[] 3)) W.heap.size 23 23 3 i0 (.int .i64 0) 1 8 Tryz.underlying23 hi hz0 hz1 hz2 rfl (by decide)
      (.slice (some ⟨W.heap.size, 0, none⟩) 0 0) 0 [] ho ad l.length c (l.map (Value.int .i64)) (by simp)
      (fun j u hj => by
        have hjl : j < l.length := by have := (List.getElem?_eq_some_iff.1 hj).1; simpa using this
        obtain ⟨b, o, e, hat⟩ := h1.at' (by rintro rfl; simp at hjl)
        obtain rfl : ad = ⟨b, o, none⟩ := Option.some.inj e
        rw [Addr.add_lit]
        have := (hat.below hal).2 j l[j] (by simp [hjl])
        rw [this]
        simp [hjl] at hj
        rw [← hj])
      (fun u hu => by obtain ⟨x, _, rfl⟩ := List.mem_map.mp hu; rfl) (by unfold maxLen; omega) (by omega) (by simp)
    have hb : Below W.heap.size W W' := hal.trans ((Below.refl _ _).grown hg hal.size (fun k e => by cases e; exact Nat.le_refl _))
    simp only [List.nil_append, Nat.zero_add] at h2
    obtain ⟨a1, c1, rfl, hsl⟩ := own_ints rfl h1.wf h2
    exact ⟨a1, c1, W', hrun, hsl, hb⟩

/-! ### Set -/

theorem rset_no1 (a a' a2 : Option Addr) (c c' c2 n k m : Nat) (cs : List Int) (hk : cs.length = k) (hs : k ≤ 1000000) (hv : mayC cs n = false) (w : World) (h2 : SlI w a' c' cs) :
    Calls Tryz.prog 9 #[.slice a n c, .slice a' k c', .slice a2 m c2] w fun e w' => e = .returned (.tuple #[.slice none 0 0, .int .i64 4]) ∧ Below w.heap.size w w' := by
  have hcon := fun W (hB : Below w.heap.size w W) => rkmay_is a' c' k cs (n : Int) false hk hs (by rw [Int.toNat_natCast]; exact hv) W (h2.below hB)
  clear h2
  go_enter Tryz.func9, Tryz.ntmps9
  go_wp2_with fail
  refine (hcon _ (Below.refl _ _)).mono ?_
  rintro e w1 ⟨rfl, hb1⟩
  clear hcon
  go_wp2_with fail
  go_ret2
  exact ⟨rfl, hb1⟩

theorem rset_no2 (a a' a2 : Option Addr) (c c' c2 n k m : Nat) (cs : List Int) (hk : cs.length = k) (hs : k ≤ 1000000) (hv : mayC cs n = true) (hm : m ≠ k) (w : World) (h2 : SlI w a' c' cs) :
    Calls Tryz.prog 9 #[.slice a n c, .slice a' k c', .slice a2 m c2] w fun e w' => e = .returned (.tuple #[.slice none 0 0, .int .i64 4]) ∧ Below w.heap.size w w' := by
  have hcon := fun W (hB : Below w.heap.size w W) => rkmay_is a' c' k cs (n : Int) true hk hs (by rw [Int.toNat_natCast]; exact hv) W (h2.below hB)
  have hne : ¬ (m : Int) = (k : Int) := by omega
  clear h2
  go_enter Tryz.func9, Tryz.ntmps9
  go_wp2_with fail
  refine (hcon _ (Below.refl _ _)).mono ?_
  rintro e w1 ⟨rfl, hb1⟩
  clear hcon
  go_wp2_with fail
  go_ret2
  exact ⟨rfl, hb1⟩

set_option maxRecDepth 100000 in
set_option maxHeartbeats 2000000 in
theorem rset_is (a a' a2 : Option Addr) (c c' c2 n k : Nat) (l : List Val) (cs : List Int) (vs : List Val) (hn : l.length = n) (hk : cs.length = k) (hm : vs.length = k) (hs : k ≤ 1000000) (ht : n ≤ 1000000) (hv : mayC cs n = true) (w : World) (h1 : SlL w a c l) (h2 : SlI w a' c' cs) (h3 : SlL w a2 c2 vs) :
    Calls Tryz.prog 9 #[.slice a n c, .slice a' k c', .slice a2 k c2] w fun e w' => ∃ g cap, e = .returned (.tuple #[.slice (some ⟨g, 0, none⟩) n cap, .int .i64 0]) ∧ n ≤ cap ∧ cap ≤ maxLen ∧ w.heap.size ≤ g ∧ Own w' g (setL l cs vs) ∧ Below w.heap.size w w' := by
  have hne : l ≠ [] := by
    rintro rfl
    obtain ⟨h0, h4, _⟩ := (mayC_iff cs n).mp hv
    cases cs with
    | nil => exact h0 rfl
    | cons x cs =>
      have := h4 x (List.mem_cons_self ..)
      have hn0 : 0 = n := hn
      omega
  have hcon := fun W (hB : Below w.heap.size w W) => rkmay_is a' c' k cs (n : Int) true hk hs (by rw [Int.toNat_natCast]; exact hv) W (h2.below hB)
  have HK := Lib.hid hk
  have HN := Lib.hid hn
  have HM := Lib.hid hm
  have HC := Lib.hid h2
  have HA := Lib.hid h3
  have HR := Lib.hid h1
  have HNE := Lib.hid hne
  have HV : Hid (∀ x ∈ cs, 0 ≤ x ∧ x < l.length) := Lib.hid (by rw [hn]; exact mayC_in hv)
  have hbk : k ≤ 9223372036854775807 := by omega
  have hbn : n ≤ 9223372036854775807 := by omega
  clear h1 h2 h3 hn hk hv hm hne
  go_enter Tryz.func9, Tryz.ntmps9
  go_wp2_with fail
  refine (hcon _ (Below.refl _ _)).mono ?_
  rintro e w1 ⟨rfl, hb1⟩
  have HB1 := Lib.hid hb1
  obtain ⟨g, cap, W1, hrun, hnc, hcm, hg, hO, hb2⟩ := one_own (HR.out.below hb1) HNE.out (by rw [HN.out]; omega)
  rw [HN.out] at hrun hnc
  have HRUN := Lib.hid hrun
  have HB2 : Hid (Below w.heap.size w W1) := Lib.hid (below_tr HB1.out hb2)
  have HG : Hid (w.heap.size ≤ g) := Lib.hid (Nat.le_trans HB1.out.size hg)
  have HO : Hid (Own W1 g (setL l (cs.take 0) (vs.take 0))) := Lib.hid (by rw [List.take_zero, List.take_zero]; exact hO)
  clear hcon hb1 hrun hO hb2 hg
  go_wp2_with (at_builtin; refine append_stepW rfl _ _ 22 rfl _ _ _ _ rfl rfl HRUN.out ?_)
  go_loopg [9] k (fun gg s9 wr => ∃ i : Nat, s9 = .int .i64 i ∧ i ≤ k ∧ k - i ≤ gg ∧ Hid (Own wr g (setL l (cs.take i) (vs.take i))) ∧ Hid (Below w.heap.size w wr))
  case atStart => exact ⟨0, rfl, Nat.zero_le _, by omega, HO, HB2⟩
  case round =>
    obtain ⟨i, rfl, hin, hgg, HOW, BW⟩ := hrel
    by_cases hlt : i < k
    · have hltz : (i : Int) < (k : Int) := by omega
      have z1 : ¬ k ≤ i := by omega
      obtain ⟨y, hy⟩ : ∃ y, cs[i]? = some y := ⟨cs[i]'(by rw [HK.out]; exact hlt), by simp⟩
      obtain ⟨v, hv⟩ := get_is (l := vs) (i := i) (by rw [HM.out]; exact hlt)
      obtain ⟨j, x, rfl, hj, hx, hd⟩ := col_at HV.out hy Val.zero
      obtain ⟨b', o', rfl, hc, hb'⟩ := at_i (HC.out.below BW.out) hy
      obtain ⟨b2, o2, rfl, d0, d1, d2, d3, d4⟩ := at_l (HA.out.below BW.out) hv
      have hjn : j < n := by rw [← HN.out]; exact hj
      have hjz : (j : Int) < (n : Int) := by omega
      have hjl : j < (setL l (cs.take i) (vs.take i)).length := by rw [length_setL]; exact hj
      have hf0 := HOW.out.fz (j * 4)
      have hf1 := HOW.out.fz (j * 4 + 1)
      have hf2 := HOW.out.fz (j * 4 + 2)
      have hf3 := HOW.out.fz (j * 4 + 3)
      obtain ⟨e0, e1, e2, e3, e4⟩ := HOW.out.get (i := j) (x := (setL l (cs.take i) (vs.take i))[j]) (by simp)
      have HY := Lib.hid hy
      have HV' := Lib.hid hv
      clear hy hd hx hj hv
      go_wp2_with fail
      go_still_tail 10, (by kernel_rfl)
      change wpList _ _ _ _ _ wr.drew
      have HOD := Lib.hid (HOW.out.below (below_drw wr))
      have BD : Hid (Below w.heap.size w wr.drew) := Lib.hid (BW.out.trans ((below_drw wr).mono BW.out.size))
      clear e0 e1 e2 e3 e4 hf0 hf1 hf2 hf3 d0 d1 d2 d3 d4 hc hb'
      generalize wr.drew = W at HOD BD ⊢
      have hf0 := HOD.out.fz (j * 4)
      have hf1 := HOD.out.fz (j * 4 + 1)
      have hf2 := HOD.out.fz (j * 4 + 2)
      have hf3 := HOD.out.fz (j * 4 + 3)
      obtain ⟨e0, e1, e2, e3, e4⟩ := HOD.out.get (i := j) (x := (setL l (cs.take i) (vs.take i))[j]) (by simp)
      go_wp2_with fail
      go_roundg (k - (i + 1))
      case measure => omega
      case rel =>
        refine ⟨i + 1, by go_num, by omega, Nat.le_refl _, Lib.hid ?_, Lib.hid (below_putAt BD.out HG.out j v)⟩
        have := HOD.out.put hjl v
        rw [setL_take _ _ _ _ _ _ HY.out HV'.out, Int.toNat_natCast]
        exact this
    · have hltz : ¬ (i : Int) < (k : Int) := by omega
      have HOW' : Hid (Own wr g (setL l cs vs)) := Lib.hid (by
        have := HOW.out
        rw [List.take_of_length_le (by rw [HK.out]; omega), List.take_of_length_le (by rw [HM.out]; omega)] at this
        exact this)
      go_wp2_with fail
      go_ret2
      exact ⟨g, cap, rfl, hnc, hcm, HG.out, HOW'.out, BW.out⟩

/-! ### spoil -/

/-- Only block g may have changed. -/
structure But (g : Nat) (w w' : World) : Prop where
  os : w'.os = w.os
  tape : w'.tape = w.tape
  output : w'.output = w.output
  size : w.heap.size ≤ w'.heap.size
  block : ∀ k, k < w.heap.size → k ≠ g → w'.heap[k]? = w.heap[k]?

theorem But.refl (g : Nat) (w : World) : But g w w := ⟨rfl, rfl, rfl, Nat.le_refl _, fun _ _ _ => rfl⟩
theorem But.below {B g : Nat} {w w' : World} (h : But g w w') (hB : B ≤ g) (hg : g < w.heap.size) : Below B w w' := ⟨h.os, h.tape, h.output, h.size, fun k hk => h.block k (by omega) (by omega)⟩
theorem But.trans {g : Nat} {w w1 w2 : World} (h : But g w w1) (h2 : But g w1 w2) : But g w w2 :=
  ⟨h2.os.trans h.os, h2.tape.trans h.tape, h2.output.trans h.output, Nat.le_trans h.size h2.size, fun k hk hne => (h2.block k (Nat.lt_of_lt_of_le hk h.size) hne).trans (h.block k hk hne)⟩
theorem But.set (w : World) (g o : Nat) (v : Value) : But g w (w.setCell ⟨g, o, none⟩ v) :=
  ⟨rfl, rfl, rfl, by simp [World.setCell], fun k _ hne => Below.heap_setCell _ _ _ _ hne⟩

theorem But.cell {g b o : Nat} {w w' : World} (h : But g w w') (hb : b < w.heap.size) (hne : b ≠ g) : w'.cell? ⟨b, o, none⟩ = w.cell? ⟨b, o, none⟩ := World.cell?_of_block (h.block b hb hne)
theorem But.frozen {g b o : Nat} {w w' : World} (h : But g w w') (hb : b < w.heap.size) (hne : b ≠ g) : w'.frozen? ⟨b, o, none⟩ = w.frozen? ⟨b, o, none⟩ := by
  unfold World.frozen?
  rw [h.block b hb hne]

theorem Own.but {g b : Nat} {l : List Val} {w w' : World} (h : Own w b l) (hb : But g w w') (hne : b ≠ g) : Own w' b l := by
  refine ⟨fun i x hx => ?_, fun t => by rw [hb.frozen h.lt hne]; exact h.fz t, Nat.lt_of_lt_of_le h.lt hb.size⟩
  obtain ⟨h0, h1, h2, h3, h4⟩ := h.at' i x hx
  exact ⟨by rw [hb.cell h.lt hne]; exact h0, by rw [hb.cell h.lt hne]; exact h1, by rw [hb.cell h.lt hne]; exact h2, by rw [hb.cell h.lt hne]; exact h3, Nat.lt_of_lt_of_le h.lt hb.size⟩

theorem Own.putT {W : World} {g i : Nat} {l : List Val} {x : Val} (h : Own W g l) (hx : l[i]? = some x) (t : ByteArray) : Own (W.setCell ⟨g, i * 4 + 3, none⟩ (.string t)) g (l.set i ⟨x.k, x.n, x.u, t⟩) := by
  have hp := h.put (List.getElem?_eq_some_iff.mp hx).1 ⟨x.k, x.n, x.u, t⟩
  obtain ⟨h0, h1, h2, h3, h4⟩ := h.get hx
  unfold putAt at hp
  rw [setCell_self h0, setCell_self h1, setCell_self h2] at hp
  exact hp

theorem spoil_nil (a : Option Addr) (c : Nat) (w : World) : Calls Tryz.prog 11 #[.slice a 0 c] w fun e w' => e = .returned (.tuple #[]) ∧ Below w.heap.size w w' := by
  go_enter Tryz.func11, Tryz.ntmps11
  go_wp2_with fail
  go_loopg [2] 1 (fun _ s2 wr => s2 = .int .i64 0 ∧ wr = w)
  case atStart => exact ⟨rfl, rfl⟩
  case round =>
    obtain ⟨rfl, rfl⟩ := hrel
    go_wp2_with fail
    go_end0
    exact ⟨rfl, Below.refl _ _⟩

set_option maxRecDepth 100000 in
set_option maxHeartbeats 1000000 in
theorem spoil_is (g n c : Nat) (l : List Val) (hn : l.length = n) (hs : n ≤ 1000000) (w : World) (h1 : Own w g l) :
    Calls Tryz.prog 11 #[.slice (some ⟨g, 0, none⟩) n c] w fun e w' => e = .returned (.tuple #[]) ∧ But g w w' := by
  have HA := Lib.hid h1
  have HN := Lib.hid hn
  have hbn : n ≤ 9223372036854775807 := by omega
  clear h1 hn
  go_enter Tryz.func11, Tryz.ntmps11
  go_wp2_with fail
  go_loopg [2] n (fun gg s2 wr => ∃ (i : Nat) (l' : List Val), s2 = .int .i64 i ∧ i ≤ n ∧ n - i ≤ gg ∧ Hid (l'.length = n) ∧ Hid (Own wr g l') ∧ Hid (But g w wr))
  case atStart => exact ⟨0, l, rfl, Nat.zero_le _, by omega, HN, HA, Lib.hid (But.refl _ _)⟩
  case round =>
    obtain ⟨i, l', rfl, hin, hgg, HL, HO, BW⟩ := hrel
    by_cases hlt : i < n
    · have hltz : (i : Int) < (n : Int) := by omega
      have z1 : ¬ n ≤ i := by omega
      obtain ⟨x, hx⟩ := get_is (l := l') (i := i) (by rw [HL.out]; exact hlt)
      obtain ⟨e0, e1, e2, e3, e4⟩ := HO.out.get hx
      have hf3 := HO.out.fz (i * 4 + 3)
      have HX := Lib.hid hx
      clear hx
      go_wp2_with fail
      go_roundg (n - (i + 1))
      case measure => omega
      case rel => exact ⟨i + 1, _, by go_num, by omega, Nat.le_refl _, Lib.hid (by rw [List.length_set]; exact HL.out), Lib.hid (HO.out.putT HX.out _), Lib.hid (BW.out.trans (But.set _ _ _ _))⟩
    · have hltz : ¬ (i : Int) < (n : Int) := by omega
      go_wp2_with fail
      go_end0
      exact ⟨rfl, BW.out⟩

end Go.Proofs.YtenpjfkiehcjlaaGreatDoor
