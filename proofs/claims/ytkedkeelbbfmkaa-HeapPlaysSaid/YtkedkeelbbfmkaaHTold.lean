/-
  told: all tuples, by tables, rows, and as they were put; alike (stage 11).
-/
import Derived.Test.YtkedkeelbbfmkaaHTh
import Derived.Test.YtkedkeelbbfmkaaRegX
import Derived.Test.YtkedkeelbbfmkaaRegL
namespace Go.Proofs.Ytkedkeelbbfmkaa
open Go.RowKit
set_option linter.unusedVariables false

/-- The tables, the IDs of one, as they are told. -/
noncomputable def Ab.tabsL (A : Ab) : List Int := open Classical in if h : ∃ l, A.IsTabs l then Classical.choose h else []
noncomputable def Ab.idsL (A : Ab) (x : Int) : List Int := open Classical in if h : ∃ l, A.IsIDs x l then Classical.choose h else []
theorem tabsL_eq {A : Ab} {l : List Int} (h : A.IsTabs l) : l = A.tabsL := by
  unfold Ab.tabsL
  rw [dif_pos ⟨l, h⟩]
  exact h.eq (Classical.choose_spec (⟨l, h⟩ : ∃ l, A.IsTabs l))
theorem idsL_eq {A : Ab} {x : Int} {l : List Int} (h : A.IsIDs x l) : l = A.idsL x := by
  unfold Ab.idsL
  rw [dif_pos ⟨l, h⟩]
  exact h.eq (Classical.choose_spec (⟨l, h⟩ : ∃ l, A.IsIDs x l))

/-- What is told of a row, a table, all; and what Next tells. -/
def Ab.rowP (A : Ab) (x y : Int) : List Plc := (A.slots x y).map fun s : Nat => ((s : Int), A.atT s)
noncomputable def Ab.tabP (A : Ab) (x : Int) : List Plc := (A.idsL x).flatMap (A.rowP x)
noncomputable def Ab.allP (A : Ab) : List Plc := A.tabsL.flatMap A.tabP
def Ab.nxtS (A : Ab) : Nat → Ab
  | 0 => A
  | n + 1 => (A.nxtS n).nx ((n : Int) + 1)
def Ab.nxtP (A : Ab) (n : Nat) : List Plc := (List.range n).map fun k => ((A.nxtS k).nxV ((k : Int) + 1), tup0)
noncomputable def Ab.tellL (A : Ab) : List Plc := A.allP ++ A.nxtP 4

theorem flat_take {α : Type} {l : List Int} {f : Int → List α} {i : Nat} {x : Int} (h : l[i]? = some x) : (l.take (i + 1)).flatMap f = (l.take i).flatMap f ++ f x := by
  rw [List.take_add_one, h, List.flatMap_append]
  simp
theorem map_take {l : List Nat} {f : Nat → Plc} {i : Nat} {x : Nat} (h : l[i]? = some x) : (l.take (i + 1)).map f = (l.take i).map f ++ [f x] := by
  rw [List.take_add_one, h, List.map_append]
  rfl
theorem nxtP_succ (A : Ab) (n : Nat) : A.nxtP (n + 1) = A.nxtP n ++ [((A.nxtS n).nxV ((n : Int) + 1), tup0)] := by
  unfold Ab.nxtP
  rw [List.range_succ, List.map_append]
  rfl


/-! ### No more is told than there is -/

theorem idsL_rise (A : Ab) (x : Int) : Rise (A.idsL x) := by
  unfold Ab.idsL
  split
  · rename_i h
    exact (Classical.choose_spec h).1
  · exact List.Pairwise.nil
theorem tabsL_rise (A : Ab) : Rise A.tabsL := by
  unfold Ab.tabsL
  split
  · rename_i h
    exact (Classical.choose_spec h).1
  · exact List.Pairwise.nil
theorem rowP_mem {A : Ab} {x y : Int} {p : Plc} (h : p ∈ A.rowP x y) : ∃ (s : Nat) (t : Tup), p.1 = (s : Int) ∧ (s, t) ∈ A.pl ∧ t.no = x ∧ t.id = y := by
  obtain ⟨s, hs, rfl⟩ := List.mem_map.1 h
  obtain ⟨n, hn⟩ := List.getElem?_of_mem hs
  obtain ⟨t, h1, h2, h3⟩ := slot_tup hn
  exact ⟨s, t, rfl, h1, h2, h3⟩
theorem tabP_mem {A : Ab} {x : Int} {p : Plc} (h : p ∈ A.tabP x) : ∃ (s : Nat) (t : Tup), p.1 = (s : Int) ∧ (s, t) ∈ A.pl ∧ t.no = x := by
  obtain ⟨y, hy, hp⟩ := List.mem_flatMap.1 h
  obtain ⟨s, t, h1, h2, h3, h4⟩ := rowP_mem hp
  exact ⟨s, t, h1, h2, h3⟩
theorem allP_mem {A : Ab} {p : Plc} (h : p ∈ A.allP) : ∃ (s : Nat) (t : Tup), p.1 = (s : Int) ∧ (s, t) ∈ A.pl := by
  obtain ⟨x, hx, hp⟩ := List.mem_flatMap.1 h
  obtain ⟨s, t, h1, h2, h3⟩ := tabP_mem hp
  exact ⟨s, t, h1, h2⟩
theorem rowP_nd {A : Ab} (hok : A.Ok) (x y : Int) : (A.rowP x y).Pairwise fun p q => p.1 ≠ q.1 := by
  unfold Ab.rowP
  rw [List.pairwise_map]
  exact List.Pairwise.imp (fun h e => h (by have : (_ : Int) = _ := e; omega)) (slots_nd hok x y)
theorem tabP_nd {A : Ab} (hok : A.Ok) (x : Int) : (A.tabP x).Pairwise fun p q => p.1 ≠ q.1 := by
  unfold Ab.tabP
  rw [List.pairwise_flatMap]
  refine ⟨fun y _ => rowP_nd hok x y, List.Pairwise.imp (fun {y y'} hlt p hp q hq e => ?_) (idsL_rise A x)⟩
  obtain ⟨s, t, h1, h2, h3, h4⟩ := rowP_mem hp
  obtain ⟨s', t', g1, g2, g3, g4⟩ := rowP_mem hq
  have : s = s' := by omega
  subst this
  have := mem_same hok.nd h2 g2
  subst this
  omega
theorem allP_nd {A : Ab} (hok : A.Ok) : A.allP.Pairwise fun p q => p.1 ≠ q.1 := by
  unfold Ab.allP
  rw [List.pairwise_flatMap]
  refine ⟨fun y _ => tabP_nd hok y, List.Pairwise.imp (fun {y y'} hlt p hp q hq e => ?_) (tabsL_rise A)⟩
  obtain ⟨s, t, h1, h2, h3⟩ := tabP_mem hp
  obtain ⟨s', t', g1, g2, g3⟩ := tabP_mem hq
  have : s = s' := by omega
  subst this
  have := mem_same hok.nd h2 g2
  subst this
  omega
theorem all_len {A : Ab} (hok : A.Ok) : A.allP.length ≤ A.pl.length := by
  have h1 : (A.allP.map Prod.fst).Nodup := by
    unfold List.Nodup
    rw [List.pairwise_map]
    exact allP_nd hok
  have := nodup_sub (m := A.used.map fun (s : Nat) => (s : Int)) h1 fun v hv => by
    obtain ⟨p, hp, rfl⟩ := List.mem_map.1 hv
    obtain ⟨s, t, h2, h3⟩ := allP_mem hp
    exact List.mem_map.2 ⟨s, List.mem_map.2 ⟨_, h3, rfl⟩, h2.symm⟩
  rw [List.length_map, List.length_map, used_len] at this
  exact this
theorem flat_len {α : Type} (l : List Int) (f : Int → List α) (i : Nat) : ((l.take i).flatMap f).length ≤ (l.flatMap f).length := by
  have e : l.flatMap f = (l.take i).flatMap f ++ (l.drop i).flatMap f := by rw [← List.flatMap_append, List.take_append_drop]
  rw [e, List.length_append]
  omega
theorem told_len {A : Ab} (hok : A.Ok) {tabs ids : List Int} {x y : Int} {i k : Nat} (ht : tabs = A.tabsL) (hi : ids = A.idsL x) (hx : tabs[i]? = some x) (hy : ids[k]? = some y) (n : Nat) :
    ((tabs.take i).flatMap A.tabP ++ (ids.take k).flatMap (A.rowP x) ++ ((A.slots x y).take n).map fun s : Nat => ((s : Int), A.atT s)).length ≤ A.pl.length := by
  have h1 := all_len hok
  have h2 := flat_len tabs A.tabP (i + 1)
  rw [flat_take hx, List.length_append] at h2
  have h3 := flat_len ids (A.rowP x) (k + 1)
  rw [flat_take hy, List.length_append] at h3
  have h4 : (((A.slots x y).take n).map fun s : Nat => ((s : Int), A.atT s)).length ≤ (A.rowP x y).length := by
    unfold Ab.rowP
    rw [List.length_map, List.length_map, List.length_take]
    omega
  have e1 : tabs.flatMap A.tabP = A.allP := by rw [ht]; rfl
  have e2 : ids.flatMap (A.rowP x) = A.tabP x := by rw [hi]; rfl
  rw [e1] at h2
  rw [e2] at h3
  rw [List.length_append, List.length_append]
  omega

/-- A list of places, newer than w, with its rows in blocks of R. -/
structure Tl (w W : World) (R : Nat → Prop) (s : Value) (l : List Plc) : Prop where
  bel : Below w.heap.size w W
  row : RowP R W s l
  lt : ∀ k, R k → w.heap.size ≤ k ∧ k < W.heap.size
  own : ∀ k, s.ownBlock = some k → w.heap.size ≤ k

section
variable {w W W' : World} {R : Nat → Prop} {s : Value} {l : List Plc}
theorem Tl.below (H : Tl w W R s l) (hb : Below W.heap.size W W') : Tl w W' R s l :=
  ⟨below_tr H.bel hb, H.row.below hb, fun k hk => ⟨(H.lt k hk).1, Nat.lt_of_lt_of_le (H.lt k hk).2 hb.size⟩, H.own⟩
theorem Tl.nil (w : World) : Tl w w (fun _ => False) (.slice none 0 0) [] := ⟨Below.refl _ _, RowP.nil _ _, fun k hk => hk.elim, fun k hk => by cases hk⟩
theorem Tl.push (H : Tl w W R s l) (p : Plc) (a : Option Addr) (c : Nat) (hr : SlL W a c p.2.row) (ha : p.2.row ≠ [] → ∀ b o, a = some ⟨b, o, none⟩ → w.heap.size ≤ b ∧ s.ownBlock ≠ some b) (hn : l.length ≤ 100000) :
    ∃ a' c' W6 R', (p.2.row = [] → ∀ k, R' k → R k) ∧ (∀ ty, (Builtin.append_ #[59, 59] ty #[s, .slice (some ⟨W.heap.size, 0, none⟩) 1 1]).run Try.prog (W.alloc (.cells (plC p (.slice a p.2.row.length c)).toArray 61)) = .ok (.slice a' (l.length + 1) c') W6) ∧
      Tl w W6 R' (.slice a' (l.length + 1) c') (l ++ [p]) ∧ Touch (fun k => s.ownBlock = some k) W W6 ∧ (∀ k, Value.ownBlock (.slice a' (l.length + 1) c') = some k → s.ownBlock = some k ∨ W.heap.size ≤ k) := by
  obtain ⟨R', hR'⟩ : ∃ R' : Nat → Prop, R' = fun k => R k ∨ (p.2.row ≠ [] ∧ ∃ o, a = some ⟨k, o, none⟩) := ⟨_, rfl⟩
  have hlt : ∀ k, R' k → k < W.heap.size := fun k hk => by
    rw [hR'] at hk
    rcases hk with hk | ⟨hl, o, e⟩
    · exact (H.lt k hk).2
    · exact hr.lt hl e
  obtain ⟨a', c', W6, h1, h2, h3, h4⟩ := H.row.push (R' := R') p a c 59 hr (fun k hk => by rw [hR']; exact .inl hk) (fun hl b o e => by rw [hR']; exact .inr ⟨hl, o, e⟩) (fun k hk hR => by
    rw [hR'] at hR
    rcases hR with hR | ⟨hl, o, e⟩
    · exact H.row.own k hk hR
    · exact (ha hl k o e).2 hk) hlt (by omega)
  refine ⟨a', c', W6, R', fun hl k hk => by
    rw [hR'] at hk
    exact hk.elim id (fun h => absurd hl h.1), fun ty => h1, ⟨H.bel.trans (h3.below (fun k hk => H.own k hk) H.bel.size), h2, fun k hk => ⟨?_, Nat.lt_of_lt_of_le (hlt k hk) h3.size⟩, fun k hk => ?_⟩, h3, h4⟩
  · rw [hR'] at hk
    rcases hk with hk | ⟨hl, o, e⟩
    · exact (H.lt k hk).1
    · exact (ha hl k o e).1
  · rcases h4 k hk with e | e
    · exact H.own k e
    · exact Nat.le_trans H.bel.size e
end


/-- A row of numbers beside a list of places that grows. -/
structure Rn (out : Value) (W : World) (s : Value) (l : List Int) : Prop where
  row : RowI W s l
  ne : ∀ k, s.ownBlock = some k → out.ownBlock ≠ some k
section
variable {W W' : World} {out out' s : Value} {l : List Int}
theorem Rn.below (h : Rn out W s l) (hb : Below W.heap.size W W') : Rn out W' s l := ⟨RowF.below h.row hb, h.ne⟩
theorem Rn.pushed (h : Rn out W s l) (ht : Touch (fun k => out.ownBlock = some k) W W') (ho : ∀ k, out'.ownBlock = some k → out.ownBlock = some k ∨ W.heap.size ≤ k) : Rn out' W' s l :=
  ⟨RowF.stay h.row (ht.stay (G := fun k => out.ownBlock ≠ some k) (fun k hk e => hk e)) h.ne, fun k hk e => by
    rcases ho k e with e | e
    · exact h.ne k hk e
    · have := RowF.lt h.row k hk; omega⟩
theorem Rn.cell {b n c i : Nat} {x : Int} (h : Rn out W (.slice (some ⟨b, 0, none⟩) n c) l) (hx : l[i]? = some x) : b < W.heap.size ∧ W.cell? ⟨b, i, none⟩ = some (.int .i64 x) := by
  obtain ⟨hi, e⟩ := List.getElem?_eq_some_iff.1 hx
  obtain ⟨b', c', e1, -, -, h3, h4, -⟩ := RowI.at h.row hi
  simp only [Value.slice.injEq] at e1
  obtain ⟨e2, -, -⟩ := e1
  cases e2
  refine ⟨h3, ?_⟩
  rw [h4 i hi]
  simp [hi, e]
theorem Rn.at {a : Option Addr} {n c i : Nat} {x : Int} (h : Rn out W (.slice a n c) l) (hx : l[i]? = some x) : ∃ b, a = some ⟨b, 0, none⟩ := by
  obtain ⟨hi, e⟩ := List.getElem?_eq_some_iff.1 hx
  obtain ⟨b', c', e1, -, -, h3, h4, -⟩ := RowI.at h.row hi
  simp only [Value.slice.injEq] at e1
  exact ⟨b', e1.1⟩
end
theorem get_intT {l : List Int} {i : Nat} (h : i < l.length) : ∃ x, l[i]? = some x := ⟨l[i], by simp [h]⟩

theorem atT_wf {A : Ab} (hok : A.Ok) (x : Int) : ∀ v ∈ (A.atT x).row, v.wf := by
  unfold Ab.atT Ab.tupI
  split
  · cases e : A.tup x.toNat with
    | none => intro v hv; cases hv
    | some t => exact (hok.wf _ ((hok.tup _ t).1 e)).1.row
  · intro v hv; cases hv

set_option maxRecDepth 100000 in
set_option maxHeartbeats 8000000 in
theorem told_is (w : World) (h : Nat) (A : Ab) (z : Nat) (F : Nat → Prop) (hz : z ≤ 25000) (H : Std w h A z F) :
    Calls Try.prog 37 #[.pointer (some ⟨h, 0, none⟩)] w fun e w' => ∃ s, e = .returned s ∧ ∃ R, Tl w w' R s A.tellL := by
  have HSTD := Lib.hid H
  have HZ : Hid (z ≤ 90000) := Lib.hid (by omega)
  have HZ2 : Hid (z ≤ 30000) := Lib.hid (by omega)
  have HZ3 : Hid (z ≤ 25000) := Lib.hid hz
  clear H hz
  go_enter Try.func37, Try.ntmps37
  have hcon := tables_std w h A z F HZ.out HSTD.out
  go_wp2_with fail
  refine (show Calls Try.prog _ _ _ _ from hcon).mono ?_
  rintro e w1 ⟨tS, rfl, tabs, hr, ht, ho, hb1⟩
  obtain ⟨ta, tc, rfl, -, -⟩ := hr.form
  obtain ⟨nt, hnt⟩ : ∃ nt, tabs.length = nt := ⟨_, rfl⟩
  rw [hnt] at hr ho ⊢
  have hnt9 : nt ≤ 30000 := by have e1 := tabs_len ht; have e2 := HSTD.out.len; have e3 := HZ2.out; omega
  have htq := tabsL_eq ht
  have HTR := Lib.hid ht
  have HTQ := Lib.hid htq
  have HNT := Lib.hid hnt
  have HTL0 : Hid (Tl w w1 (fun _ => False) (.slice none 0 0) []) := Lib.hid ((Tl.nil w).below hb1)
  have HRT0 : Hid (Rn (.slice none 0 0) w1 (.slice ta nt tc) tabs) := Lib.hid ⟨hr, fun k _ e => by cases e⟩
  clear hcon hr ht ho hb1 hnt htq
  go_wp2_with fail
  go_loopg [3, 5] nt (fun gg s3 s5 ws => ∃ (i : Nat) (oa : Option Addr) (on oc : Nat) (R : Nat → Prop), s3 = .slice oa on oc ∧ s5 = .int .i64 i ∧ i ≤ nt ∧ nt - i ≤ gg ∧ Hid (Tl w ws R (.slice oa on oc) ((tabs.take i).flatMap A.tabP)) ∧ Hid (((tabs.take i).flatMap A.tabP).length = on) ∧ Hid (Rn (.slice oa on oc) ws (.slice ta nt tc) tabs))
  case atStart => exact ⟨0, none, 0, 0, _, rfl, rfl, Nat.zero_le _, by omega, HTL0, Lib.hid rfl, HRT0⟩
  case round =>
    obtain ⟨i, oa, on, oc, R, rfl, rfl, hi, hgg, HTL, HON, HRT⟩ := hrel
    clear HTL0 HRT0
    by_cases hlt : i < nt
    · have hltz : (i : Int) < (nt : Int) := by omega
      have HL := Lib.hid (And.intro hlt (And.intro hi hgg))
      obtain ⟨x, hx⟩ := get_intT (l := tabs) (i := i) (by rw [HNT.out]; exact hlt)
      have HXI := Lib.hid hx
      have HXW : Hid (I64 x) := Lib.hid (by
        obtain ⟨px, hpx, hpno⟩ := (HTR.out.2 x).1 (List.mem_of_getElem? hx)
        rw [← hpno]
        exact (HSTD.out.ok.wf px hpx).1.no)
      obtain ⟨tb1, rfl⟩ := HRT.out.at hx
      obtain ⟨htb1, r1⟩ := HRT.out.cell hx
      clear hx hi hgg
      have hcon := ids_std wr h A z F x HXW.out HZ.out (HSTD.out.below HTL.out.bel)
      go_wp2_with fail
      refine (show Calls Try.prog _ _ _ _ from hcon).mono ?_
      rintro e w6 ⟨iS, rfl, ids, hr, hids, ho, hb6⟩
      obtain ⟨ia, ic, rfl, -, -⟩ := hr.form
      obtain ⟨ni, hni⟩ : ∃ ni, ids.length = ni := ⟨_, rfl⟩
      rw [hni] at hr ho ⊢
      have hni9 : ni ≤ 30000 := by have e1 := ids_len hids; have e2 := HSTD.out.len; have e3 := HZ2.out; omega
      have hiq := idsL_eq hids
      have HID := Lib.hid hids
      have HIQ := Lib.hid hiq
      have HNI := Lib.hid hni
      have HYW : Hid (∀ y ∈ ids, I64 y) := Lib.hid (fun y hy => by
        obtain ⟨p, hp, -, e⟩ := (hids.2 y).1 hy
        rw [← e]
        exact (HSTD.out.ok.wf p hp).1.id)
      have HTL2 := Lib.hid (HTL.out.below hb6)
      have HRT2 := Lib.hid (HRT.out.below hb6)
      have HRI2 : Hid (Rn (.slice oa on oc) w6 (.slice ia ni ic) ids) := Lib.hid ⟨hr, fun k hk e => by have := ho k hk; have := HTL.out.row.lt k e; omega⟩
      clear hcon hr hids ho hb6 hni hiq r1 htb1 HTL HRT hlt
      go_wp2_with fail
      go_loopg [3, 7] ni (fun gg s3 s7 wt => ∃ (k : Nat) (oa : Option Addr) (on oc : Nat) (R : Nat → Prop), s3 = .slice oa on oc ∧ s7 = .int .i64 k ∧ k ≤ ni ∧ ni - k ≤ gg ∧ Hid (Tl w wt R (.slice oa on oc) ((tabs.take i).flatMap A.tabP ++ (ids.take k).flatMap (A.rowP x))) ∧ Hid (((tabs.take i).flatMap A.tabP ++ (ids.take k).flatMap (A.rowP x)).length = on) ∧ Hid (Rn (.slice oa on oc) wt (.slice (some ⟨tb1, 0, none⟩) nt tc) tabs) ∧ Hid (Rn (.slice oa on oc) wt (.slice ia ni ic) ids))
      case atStart => exact ⟨0, oa, on, oc, R, rfl, rfl, Nat.zero_le _, by omega, Lib.hid (by simpa using HTL2.out), Lib.hid (by simpa using HON.out), HRT2, HRI2⟩
      case round =>
        obtain ⟨k, oa, on, oc, R, rfl, rfl, hk, hgg2, HTL, HON, HRT, HRI⟩ := hrel
        clear HTL2 HRT2 HRI2
        by_cases hlt2 : k < ni
        · have hltz2 : (k : Int) < (ni : Int) := by omega
          have HL2 := Lib.hid (And.intro hlt2 (And.intro hk hgg2))
          obtain ⟨y, hy⟩ := get_intT (l := ids) (i := k) (by rw [HNI.out]; exact hlt2)
          have HYK := Lib.hid hy
          have hwy : I64 y := HYW.out y (List.mem_of_getElem? hy)
          obtain ⟨ib2, rfl⟩ := HRI.out.at hy
          clear hy hk hgg2
          obtain ⟨htb1, r1⟩ := HRT.out.cell HXI.out
          obtain ⟨hib2, r2⟩ := HRI.out.cell HYK.out
          go_upto_region 10 with (fail)
          have mixed : Try.prog.follows Departure.mixedOrders = true := by kernel_rfl
          have hd := below_drw wr
          have HTLD := Lib.hid (HTL.out.below hd)
          have HRTD := Lib.hid (HRT.out.below hd)
          have HRID := Lib.hid (HRI.out.below hd)
          have HS0 : Hid (wr.drew.cell? ⟨tb1, i, none⟩ = some (.int .i64 x) ∧ wr.drew.cell? ⟨ib2, k, none⟩ = some (.int .i64 y)) := Lib.hid ⟨(HRTD.out.cell HXI.out).2, (HRID.out.cell HYK.out).2⟩
          clear HTL HRT HRI r1 r2 hib2 htb1 hlt2 hd
          refine RX.wp_region_lastH 10 (fun W => W.cell? ⟨tb1, i, none⟩ = some (.int .i64 x) ∧ W.cell? ⟨ib2, k, none⟩ = some (.int .i64 y)) mixed (by kernel_rfl) ?_
          simp only [List.take_succ_cons, List.take_zero, List.drop_succ_cons, List.drop_zero]
          refine wpAnyH_take (i := 0) (oi := _) (v := .pointer (some ⟨h, 0, none⟩)) rfl (by kernel_rfl) (by kernel_rfl) (by kernel_rfl) (fun _ _ _ h => h) (Or.inl ⟨by rfl, fun w' hw' => ?_⟩) (HS0.out) ?_
          · obtain ⟨j0, j1⟩ := hw'
            go_simp
            try first | with_reducible rfl | simp
          refine wpAnyH_take (i := 1) (oi := _) (v := .slice (some ⟨tb1, 0, none⟩) nt tc) rfl (by kernel_rfl) (by kernel_rfl) (by kernel_rfl) (fun _ _ _ h => h) (Or.inl ⟨by rfl, fun w' hw' => ?_⟩) (HS0.out) ?_
          · obtain ⟨j0, j1⟩ := hw'
            go_simp
            try first | with_reducible rfl | simp
          refine wpAnyH_take (i := 2) (oi := _) (v := .int .i64 i) rfl (by kernel_rfl) (by kernel_rfl) (by kernel_rfl) (fun _ _ _ h => h) (Or.inl ⟨by rfl, fun w' hw' => ?_⟩) (HS0.out) ?_
          · obtain ⟨j0, j1⟩ := hw'
            go_simp
            try first | with_reducible rfl | simp
          refine wpAnyH_take (i := 3) (oi := _) (v := .pointer (some ⟨tb1, i, none⟩)) rfl (by kernel_rfl) (by kernel_rfl) (by kernel_rfl) (fun _ _ _ h => h) (Or.inl ⟨by rfl, fun w' hw' => ?_⟩) (HS0.out) ?_
          · obtain ⟨j0, j1⟩ := hw'
            go_simp
            try first | with_reducible rfl | simp
          refine wpAnyH_take (i := 4) (oi := _) (v := .int .i64 x) rfl (by kernel_rfl) (by kernel_rfl) (by kernel_rfl) (fun _ _ _ h => h) (Or.inl ⟨by rfl, fun w' hw' => ?_⟩) (HS0.out) ?_
          · obtain ⟨j0, j1⟩ := hw'
            go_simp
            try first | with_reducible rfl | simp
          refine wpAnyH_take (i := 5) (oi := _) (v := .slice (some ⟨ib2, 0, none⟩) ni ic) rfl (by kernel_rfl) (by kernel_rfl) (by kernel_rfl) (fun _ _ _ h => h) (Or.inl ⟨by rfl, fun w' hw' => ?_⟩) (HS0.out) ?_
          · obtain ⟨j0, j1⟩ := hw'
            go_simp
            try first | with_reducible rfl | simp
          refine wpAnyH_take (i := 6) (oi := _) (v := .int .i64 k) rfl (by kernel_rfl) (by kernel_rfl) (by kernel_rfl) (fun _ _ _ h => h) (Or.inl ⟨by rfl, fun w' hw' => ?_⟩) (HS0.out) ?_
          · obtain ⟨j0, j1⟩ := hw'
            go_simp
            try first | with_reducible rfl | simp
          refine wpAnyH_take (i := 7) (oi := _) (v := .pointer (some ⟨ib2, k, none⟩)) rfl (by kernel_rfl) (by kernel_rfl) (by kernel_rfl) (fun _ _ _ h => h) (Or.inl ⟨by rfl, fun w' hw' => ?_⟩) (HS0.out) ?_
          · obtain ⟨j0, j1⟩ := hw'
            go_simp
            try first | with_reducible rfl | simp
          refine wpAnyH_take (i := 8) (oi := _) (v := .int .i64 y) rfl (by kernel_rfl) (by kernel_rfl) (by kernel_rfl) (fun _ _ _ h => h) (Or.inl ⟨by rfl, fun w' hw' => ?_⟩) (HS0.out) ?_
          · obtain ⟨j0, j1⟩ := hw'
            go_simp
            try first | with_reducible rfl | simp
          refine RX.anyH_call (i := 9) (f := 17) (args := #[.pointer (some ⟨h, 0, none⟩), .int .i64 x, .int .i64 y]) (by kernel_rfl) rfl (by rfl) (by go_simp) ?_
          refine (show Calls Try.prog _ _ _ _ from slots_std wr.drew h A z F x y HXW.out hwy HZ.out (HSTD.out.below HTLD.out.bel)).mono ?_
          rintro e w4 ⟨sS, rfl, hr, ho, hb4⟩
          obtain ⟨sa, sc, rfl, -, -⟩ := hr.form
          obtain ⟨ns, hns⟩ : ∃ ns, (A.slots x y).length = ns := ⟨_, rfl⟩
          rw [natI_len, hns] at hr ho ⊢
          have HNS := Lib.hid hns
          have hns9 : ns ≤ 30000 := by have e1 := slots_len A x y; have e2 := HSTD.out.len; have e3 := HZ2.out; omega
          have HTL4 := Lib.hid (HTLD.out.below hb4)
          have HRT4 := Lib.hid (HRTD.out.below hb4)
          have HRI4 := Lib.hid (HRID.out.below hb4)
          have HRS4 : Hid (Rn (.slice oa on oc) w4 (.slice sa ns sc) (natI (A.slots x y))) := Lib.hid ⟨hr, fun k hk e => by have := ho k hk; have := HTLD.out.row.lt k e; omega⟩
          have HS4 : Hid (w4.cell? ⟨tb1, i, none⟩ = some (.int .i64 x) ∧ w4.cell? ⟨ib2, k, none⟩ = some (.int .i64 y)) := Lib.hid ⟨(HRT4.out.cell HXI.out).2, (HRI4.out.cell HYK.out).2⟩
          clear hr ho hb4 hns HTLD HRTD HRID hwy HS0
          refine ⟨_, rfl, HS4.out, ?_⟩
          refine wpAnyH_done (by kernel_rfl) ?_ _
          unfold RX.lastQ
          go_wp2_with fail
          go_loopg [3, 9] ns (fun gg s3 s9 wv => ∃ (n : Nat) (oa : Option Addr) (on oc : Nat) (R : Nat → Prop), s3 = .slice oa on oc ∧ s9 = .int .i64 n ∧ n ≤ ns ∧ ns - n ≤ gg ∧ Hid (Tl w wv R (.slice oa on oc) ((tabs.take i).flatMap A.tabP ++ (ids.take k).flatMap (A.rowP x) ++ ((A.slots x y).take n).map fun s : Nat => ((s : Int), A.atT s))) ∧ Hid (((tabs.take i).flatMap A.tabP ++ (ids.take k).flatMap (A.rowP x) ++ ((A.slots x y).take n).map fun s : Nat => ((s : Int), A.atT s)).length = on) ∧ Hid (Rn (.slice oa on oc) wv (.slice (some ⟨tb1, 0, none⟩) nt tc) tabs) ∧ Hid (Rn (.slice oa on oc) wv (.slice (some ⟨ib2, 0, none⟩) ni ic) ids) ∧ Hid (Rn (.slice oa on oc) wv (.slice sa ns sc) (natI (A.slots x y))))
          case atStart => exact ⟨0, oa, on, oc, R, rfl, rfl, Nat.zero_le _, by omega, Lib.hid (by simpa using HTL4.out), Lib.hid (by simpa using HON.out), HRT4, HRI4, HRS4⟩
          case round =>
            obtain ⟨n, oa, on, oc, R, rfl, rfl, hn, hgg3, HTL, HON, HRT, HRI, HRS⟩ := hrel
            clear HTL4 HRT4 HRI4 HRS4
            by_cases hlt3 : n < ns
            · have hltz3 : (n : Int) < (ns : Int) := by omega
              have HL3 := Lib.hid (And.intro hlt3 (And.intro hn hgg3))
              obtain ⟨sv, hsv⟩ : ∃ sv, (A.slots x y)[n]? = some sv := ⟨(A.slots x y)[n]'(by rw [HNS.out]; exact hlt3), by simp [HNS.out, hlt3]⟩
              have HSV := Lib.hid hsv
              have hsvI : (natI (A.slots x y))[n]? = some (sv : Int) := by unfold natI; rw [List.getElem?_map, hsv]; rfl
              have HSVI := Lib.hid hsvI
              obtain ⟨sb, rfl⟩ := HRS.out.at hsvI
              obtain ⟨hsb, r3⟩ := HRS.out.cell hsvI
              have HON9 : Hid (on ≤ 100000) := Lib.hid (by rw [← HON.out]; have e1 := told_len HSTD.out.ok HTQ.out HIQ.out HXI.out HYK.out n; have e2 := HSTD.out.len; have e3 := HZ3.out; omega)
              clear hsv hsvI hlt3 hn hgg3
              have hcon := at_std wr h A z F (sv : Int) HZ.out (HSTD.out.below HTL.out.bel)
              go_wp2_with fail
              refine (show Calls Try.prog _ _ _ _ from hcon).mono ?_
              rintro e w5 ⟨ss, rfl, hr, ho, hb5⟩
              obtain ⟨tv, htv⟩ : ∃ tv, A.atT (sv : Int) = tv := ⟨_, rfl⟩
              rw [htv] at hr
              rw [htv]
              have HTV := Lib.hid htv
              have HWV : Hid (∀ x ∈ tv.row, x.wf) := Lib.hid (by rw [← htv]; exact atT_wf HSTD.out.ok _)
              obtain ⟨va, vc, rfl, hq⟩ := RowV.sl hr HWV.out
              obtain ⟨vn, hvn⟩ : ∃ vn, tv.row.length = vn := ⟨_, rfl⟩
              rw [hvn] at ho ⊢
              have HVN := Lib.hid hvn
              unfold tupV
              clear hcon hr htv hvn
              obtain ⟨g, hg⟩ : ∃ g, w5.heap.size = g := ⟨_, rfl⟩
              obtain ⟨W1, hW1⟩ : ∃ W1, w5.alloc (.cells (tupC tv (.slice va vn vc)).toArray 28) = W1 := ⟨_, rfl⟩
              have l1 := Lit.new w5 28 (tupC tv (.slice va vn vc))
              have b1 := Below.allocs w5 (.cells (tupC tv (.slice va vn vc)).toArray 28)
              rw [hW1] at l1 b1
              rw [hg] at l1
              have hd := below_drw W1
              have hbd := below_tr (below_tr hb5 b1) hd
              have HTLD := Lib.hid (HTL.out.below hbd)
              have hgo : g < W1.drew.heap.size := Nat.lt_of_lt_of_le l1.lt hd.size
              have hgn : ∀ k, Value.ownBlock (.slice oa on oc) = some k → k ≠ g := fun k hk e => by have e1 := HTL.out.row.lt k hk; have e2 := hb5.size; omega
              obtain ⟨a3, c3, W6, R', -, hrun, htl, ht6, ho6⟩ := HTLD.out.push (((sv : Int), tv) : Plc) va vc ((hq.below b1).below hd) (fun hl b o e => ⟨by subst e; exact Nat.le_trans HTL.out.bel.size (ho b rfl), fun e2 => by subst e; have e1 := ho b rfl; have e3 := HTL.out.row.lt b e2; omega⟩) (by rw [HON.out]; exact HON9.out)
              simp only [plC, HVN.out, HON.out] at hrun
              rw [HON.out] at htl ho6
              have hst6 := ht6.stay (G := fun k => Value.ownBlock (.slice oa on oc) ≠ some k) (fun k hk e => hk e)
              have hal := Below.allocs W1.drew (.cells #[.int .i64 (sv : Int), .int .i64 tv.no, .int .i64 tv.id, .int .i64 tv.mn, .int .i64 tv.cm, .int .i64 tv.mx, .int .i64 tv.cx, .slice va vn vc] 61)
              have lD := l1.below hd
              have lA := lD.below hal
              have l6 := lD.stay hst6 (fun e => hgn g e rfl)
              have rD := (HRS.out.below hbd).cell HSVI.out
              have rA := ((HRS.out.below hbd).below hal).cell HSVI.out
              have HRT6 := Lib.hid ((HRT.out.below hbd).pushed ht6 ho6)
              have HRI6 := Lib.hid ((HRI.out.below hbd).pushed ht6 ho6)
              have HRS6 := Lib.hid ((HRS.out.below hbd).pushed ht6 ho6)
              have r6 := HRS6.out.cell HSVI.out
              have HS0 : Hid (W1.drew.cell? ⟨sb, n, none⟩ = some (.int .i64 (sv : Int)) ∧ W1.drew.cell? ⟨g, 0, none⟩ = some (.int .i64 tv.no) ∧ W1.drew.cell? ⟨g, 1, none⟩ = some (.int .i64 tv.id) ∧ W1.drew.cell? ⟨g, 2, none⟩ = some (.int .i64 tv.mn) ∧ W1.drew.cell? ⟨g, 3, none⟩ = some (.int .i64 tv.cm) ∧ W1.drew.cell? ⟨g, 4, none⟩ = some (.int .i64 tv.mx) ∧ W1.drew.cell? ⟨g, 5, none⟩ = some (.int .i64 tv.cx) ∧ W1.drew.cell? ⟨g, 6, none⟩ = some (.slice va vn vc) ∧ g < W1.drew.heap.size) := Lib.hid ⟨rD.2, lD.cell rfl, lD.cell rfl, lD.cell rfl, lD.cell rfl, lD.cell rfl, lD.cell rfl, lD.cell rfl, lD.lt⟩
              have HS1 : Hid ((W1.drew.alloc (.cells #[.int .i64 (sv : Int), .int .i64 tv.no, .int .i64 tv.id, .int .i64 tv.mn, .int .i64 tv.cm, .int .i64 tv.mx, .int .i64 tv.cx, .slice va vn vc] 61)).cell? ⟨sb, n, none⟩ = some (.int .i64 (sv : Int)) ∧ (W1.drew.alloc (.cells #[.int .i64 (sv : Int), .int .i64 tv.no, .int .i64 tv.id, .int .i64 tv.mn, .int .i64 tv.cm, .int .i64 tv.mx, .int .i64 tv.cx, .slice va vn vc] 61)).cell? ⟨g, 0, none⟩ = some (.int .i64 tv.no) ∧ (W1.drew.alloc (.cells #[.int .i64 (sv : Int), .int .i64 tv.no, .int .i64 tv.id, .int .i64 tv.mn, .int .i64 tv.cm, .int .i64 tv.mx, .int .i64 tv.cx, .slice va vn vc] 61)).cell? ⟨g, 1, none⟩ = some (.int .i64 tv.id) ∧ (W1.drew.alloc (.cells #[.int .i64 (sv : Int), .int .i64 tv.no, .int .i64 tv.id, .int .i64 tv.mn, .int .i64 tv.cm, .int .i64 tv.mx, .int .i64 tv.cx, .slice va vn vc] 61)).cell? ⟨g, 2, none⟩ = some (.int .i64 tv.mn) ∧ (W1.drew.alloc (.cells #[.int .i64 (sv : Int), .int .i64 tv.no, .int .i64 tv.id, .int .i64 tv.mn, .int .i64 tv.cm, .int .i64 tv.mx, .int .i64 tv.cx, .slice va vn vc] 61)).cell? ⟨g, 3, none⟩ = some (.int .i64 tv.cm) ∧ (W1.drew.alloc (.cells #[.int .i64 (sv : Int), .int .i64 tv.no, .int .i64 tv.id, .int .i64 tv.mn, .int .i64 tv.cm, .int .i64 tv.mx, .int .i64 tv.cx, .slice va vn vc] 61)).cell? ⟨g, 4, none⟩ = some (.int .i64 tv.mx) ∧ (W1.drew.alloc (.cells #[.int .i64 (sv : Int), .int .i64 tv.no, .int .i64 tv.id, .int .i64 tv.mn, .int .i64 tv.cm, .int .i64 tv.mx, .int .i64 tv.cx, .slice va vn vc] 61)).cell? ⟨g, 5, none⟩ = some (.int .i64 tv.cx) ∧ (W1.drew.alloc (.cells #[.int .i64 (sv : Int), .int .i64 tv.no, .int .i64 tv.id, .int .i64 tv.mn, .int .i64 tv.cm, .int .i64 tv.mx, .int .i64 tv.cx, .slice va vn vc] 61)).cell? ⟨g, 6, none⟩ = some (.slice va vn vc) ∧ g < (W1.drew.alloc (.cells #[.int .i64 (sv : Int), .int .i64 tv.no, .int .i64 tv.id, .int .i64 tv.mn, .int .i64 tv.cm, .int .i64 tv.mx, .int .i64 tv.cx, .slice va vn vc] 61)).heap.size) := Lib.hid ⟨rA.2, lA.cell rfl, lA.cell rfl, lA.cell rfl, lA.cell rfl, lA.cell rfl, lA.cell rfl, lA.cell rfl, lA.lt⟩
              have HS2 : Hid (W6.cell? ⟨sb, n, none⟩ = some (.int .i64 (sv : Int)) ∧ W6.cell? ⟨g, 0, none⟩ = some (.int .i64 tv.no) ∧ W6.cell? ⟨g, 1, none⟩ = some (.int .i64 tv.id) ∧ W6.cell? ⟨g, 2, none⟩ = some (.int .i64 tv.mn) ∧ W6.cell? ⟨g, 3, none⟩ = some (.int .i64 tv.cm) ∧ W6.cell? ⟨g, 4, none⟩ = some (.int .i64 tv.mx) ∧ W6.cell? ⟨g, 5, none⟩ = some (.int .i64 tv.cx) ∧ W6.cell? ⟨g, 6, none⟩ = some (.slice va vn vc) ∧ g < W6.heap.size) := Lib.hid ⟨r6.2, l6.cell rfl, l6.cell rfl, l6.cell rfl, l6.cell rfl, l6.cell rfl, l6.cell rfl, l6.cell rfl, l6.lt⟩
              have HRUN := Lib.hid hrun
              have HTL6 := Lib.hid htl
              have HW1 := Lib.hid hW1
              have HG1 := Lib.hid hg
              unfold tupC at HW1
              clear hW1 hg l1 b1 hd hbd hgo hgn hrun htl ht6 ho6 hst6 hal lD lA l6 rD rA r6 hb5 hq ho r3 hsb HTL HRT HRI HRS HTLD
              go_upto_region 15 with (fail)
              rw [show w5.alloc _ = W1 from HW1.out, HG1.out]
              clear HW1 HG1
              have mixed : Try.prog.follows Departure.mixedOrders = true := by kernel_rfl
              refine RX.wp_region_lastH 9 (fun W => W.cell? ⟨sb, n, none⟩ = some (.int .i64 (sv : Int)) ∧ W.cell? ⟨g, 0, none⟩ = some (.int .i64 tv.no) ∧ W.cell? ⟨g, 1, none⟩ = some (.int .i64 tv.id) ∧ W.cell? ⟨g, 2, none⟩ = some (.int .i64 tv.mn) ∧ W.cell? ⟨g, 3, none⟩ = some (.int .i64 tv.cm) ∧ W.cell? ⟨g, 4, none⟩ = some (.int .i64 tv.mx) ∧ W.cell? ⟨g, 5, none⟩ = some (.int .i64 tv.cx) ∧ W.cell? ⟨g, 6, none⟩ = some (.slice va vn vc) ∧ g < W.heap.size) mixed (by kernel_rfl) ?_
              simp only [List.take_succ_cons, List.take_zero, List.drop_succ_cons, List.drop_zero]
              refine wpAnyH_take (i := 0) (oi := _) (v := .slice oa on oc) rfl (by kernel_rfl) (by kernel_rfl) (by kernel_rfl) (fun _ _ _ h => h) (Or.inl ⟨by rfl, fun w' hw' => ?_⟩) (HS0.out) ?_
              · obtain ⟨j, c0, c1, c2, c3, c4, c5, c6, cl⟩ := hw'
                go_simp
                try first | with_reducible rfl | simp
              refine wpAnyH_take (i := 1) (oi := _) (v := .slice (some ⟨sb, 0, none⟩) ns sc) rfl (by kernel_rfl) (by kernel_rfl) (by kernel_rfl) (fun _ _ _ h => h) (Or.inl ⟨by rfl, fun w' hw' => ?_⟩) (HS0.out) ?_
              · obtain ⟨j, c0, c1, c2, c3, c4, c5, c6, cl⟩ := hw'
                go_simp
                try first | with_reducible rfl | simp
              refine wpAnyH_take (i := 2) (oi := _) (v := .int .i64 n) rfl (by kernel_rfl) (by kernel_rfl) (by kernel_rfl) (fun _ _ _ h => h) (Or.inl ⟨by rfl, fun w' hw' => ?_⟩) (HS0.out) ?_
              · obtain ⟨j, c0, c1, c2, c3, c4, c5, c6, cl⟩ := hw'
                go_simp
                try first | with_reducible rfl | simp
              refine wpAnyH_take (i := 3) (oi := _) (v := .pointer (some ⟨sb, n, none⟩)) rfl (by kernel_rfl) (by kernel_rfl) (by kernel_rfl) (fun _ _ _ h => h) (Or.inl ⟨by rfl, fun w' hw' => ?_⟩) (HS0.out) ?_
              · obtain ⟨j, c0, c1, c2, c3, c4, c5, c6, cl⟩ := hw'
                go_simp
                try first | with_reducible rfl | simp
              refine wpAnyH_take (i := 4) (oi := _) (v := .int .i64 (sv : Int)) rfl (by kernel_rfl) (by kernel_rfl) (by kernel_rfl) (fun _ _ _ h => h) (Or.inl ⟨by rfl, fun w' hw' => ?_⟩) (HS0.out) ?_
              · obtain ⟨j, c0, c1, c2, c3, c4, c5, c6, cl⟩ := hw'
                go_simp
                try first | with_reducible rfl | simp
              refine wpAnyH_take (i := 5) (oi := _) (v := .agg #[.int .i64 tv.no, .int .i64 tv.id, .int .i64 tv.mn, .int .i64 tv.cm, .int .i64 tv.mx, .int .i64 tv.cx, .slice va vn vc]) rfl (by kernel_rfl) (by kernel_rfl) (by kernel_rfl) (fun _ _ _ h => h) (Or.inl ⟨by rfl, fun w' hw' => ?_⟩) (HS0.out) ?_
              · obtain ⟨j, c0, c1, c2, c3, c4, c5, c6, cl⟩ := hw'
                go_simp
                try first | with_reducible rfl | simp
              refine wpAnyH_take (i := 6) (oi := _) (v := .agg #[.int .i64 (sv : Int), .int .i64 tv.no, .int .i64 tv.id, .int .i64 tv.mn, .int .i64 tv.cm, .int .i64 tv.mx, .int .i64 tv.cx, .slice va vn vc]) rfl (by kernel_rfl) (by kernel_rfl) (by kernel_rfl) (fun _ _ _ h => h) (Or.inl ⟨by rfl, fun w' hw' => ?_⟩) (HS0.out) ?_
              · obtain ⟨j, c0, c1, c2, c3, c4, c5, c6, cl⟩ := hw'
                go_simp
                try first | with_reducible rfl | simp
              refine RX.anyH_val (i := 7) (v := .slice (some ⟨W1.drew.heap.size, 0, none⟩) 1 1) (w' := W1.drew.alloc (.cells #[.int .i64 (sv : Int), .int .i64 tv.no, .int .i64 tv.id, .int .i64 tv.mn, .int .i64 tv.cm, .int .i64 tv.mx, .int .i64 tv.cx, .slice va vn vc] 61)) (by kernel_rfl) rfl (by rfl) (by go_simp) (HS1.out) ?_
              refine RX.anyH_app (i := 8) (v := .slice oa on oc) (u := .slice (some ⟨W1.drew.heap.size, 0, none⟩) 1 1) (.tmp 59) (.tmp 66) (59) (59) (by kernel_rfl) rfl (by rfl) rfl (by go_simp) (by go_simp) (HRUN.out _) (HS2.out) ?_
              refine wpAnyH_done (by kernel_rfl) ?_ _
              unfold RX.lastQ
              go_wp2_with fail
              go_roundg (ns - (n + 1))
              case measure => have := HL3.out; omega
              case rel => exact ⟨n + 1, a3, on + 1, c3, R', rfl, by go_num, by have := HL3.out; omega, Nat.le_refl _, Lib.hid (by rw [map_take HSV.out, ← List.append_assoc, HTV.out]; exact HTL6.out), Lib.hid (by rw [map_take HSV.out, ← List.append_assoc, List.length_append, HON.out]; rfl), HRT6, HRI6, HRS6⟩
            · have hltz3 : ¬ (n : Int) < (ns : Int) := by omega
              obtain rfl : ns = n := by omega
              have hfull : ((A.slots x y).take ns).map (fun s : Nat => ((s : Int), A.atT s)) = A.rowP x y := by rw [List.take_of_length_le (by rw [HNS.out]; exact Nat.le_refl _)]; rfl
              rw [hfull, List.append_assoc, ← flat_take HYK.out] at HTL HON
              clear hfull
              go_wp2_with fail
              go_roundg (ni - (k + 1))
              case measure => have := HL2.out; omega
              case rel => exact ⟨k + 1, oa, on, oc, R, rfl, by go_num, by have := HL2.out; omega, Nat.le_refl _, HTL, HON, HRT, HRI⟩
        · have hltz2 : ¬ (k : Int) < (ni : Int) := by omega
          obtain rfl : ni = k := by omega
          have hfull : (ids.take ni).flatMap (A.rowP x) = A.tabP x := by rw [List.take_of_length_le (by rw [HNI.out]; exact Nat.le_refl _), HIQ.out]; rfl
          rw [hfull, ← flat_take HXI.out] at HTL HON
          clear hfull
          go_wp2_with fail
          go_roundg (nt - (i + 1))
          case measure => have := HL.out; omega
          case rel => exact ⟨i + 1, oa, on, oc, R, rfl, by go_num, by have := HL.out; omega, Nat.le_refl _, HTL, HON, HRT⟩
    · have hltz : ¬ (i : Int) < (nt : Int) := by omega
      obtain rfl : nt = i := by omega
      have hfull : (tabs.take nt).flatMap A.tabP = A.allP := by rw [List.take_of_length_le (by rw [HNT.out]; exact Nat.le_refl _), HTQ.out]; rfl
      rw [hfull] at HTL HON
      have HON0 : Hid (on ≤ 90000) := Lib.hid (by rw [← HON.out]; have e1 := all_len HSTD.out.ok; have e2 := HSTD.out.len; have e3 := HZ3.out; omega)
      clear hfull HRT hi hgg hlt
      have hcon := copy_std wr h A z F HZ2.out (HSTD.out.below HTL.out.bel)
      go_wp2_with fail
      refine (show Calls Try.prog _ _ _ _ from hcon).mono ?_
      rintro e w8 ⟨c, rfl, G, h1, h2, hb8⟩
      have HTL8 := Lib.hid (HTL.out.below hb8)
      have HOC : Hid (One (fun k => Value.ownBlock (.slice oa on oc) = some k ∨ R k) w w8 c A z) := Lib.hid ⟨G, h1, fun k hk => Nat.le_trans HTL.out.bel.size (h2 k hk), HTL8.out.bel, fun k hk => ⟨fun hf => by
        have e1 := h2 k hf
        rcases hk with e | e
        · have := HTL.out.row.lt k e; omega
        · have := (HTL.out.lt k e).2; omega, by
        rcases hk with e | e
        · exact HTL8.out.row.lt k e
        · exact (HTL8.out.lt k e).2⟩⟩
      unfold ptrV
      clear hcon h1 h2 hb8 HTL
      go_wp2_with fail
      go_loopg [3, 13] 5 (fun gg s3 s13 wv => ∃ (m : Nat) (oa : Option Addr) (on oc : Nat) (R : Nat → Prop), s3 = .slice oa on oc ∧ s13 = .int .i64 ((m : Int) + 1) ∧ m ≤ 4 ∧ 4 - m ≤ gg ∧ Hid (Tl w wv R (.slice oa on oc) (A.allP ++ A.nxtP m)) ∧ Hid ((A.allP ++ A.nxtP m).length = on ∧ on ≤ 90000 + m) ∧ Hid (One (fun k => Value.ownBlock (.slice oa on oc) = some k ∨ R k) w wv c (A.nxtS m) (z + m)))
      case atStart => exact ⟨0, oa, on, oc, R, rfl, rfl, Nat.zero_le _, by omega, Lib.hid (by simpa [Ab.nxtP] using HTL8.out), Lib.hid ⟨by simpa [Ab.nxtP] using HON.out, HON0.out⟩, HOC⟩
      case round =>
        obtain ⟨m, oa, on, oc, R, rfl, rfl, hm, hgg, HTL, HON, HOC⟩ := hrel
        clear HTL8
        by_cases hm4 : m < 4
        · have hmz : (m : Int) + 1 < 5 := by omega
          have HM4 := Lib.hid (And.intro hm4 (And.intro hm hgg))
          clear hm hgg hm4
          have hcon := one_next (r := (A.nxtS m).nxV ((m : Int) + 1)) HOC.out ((m : Int) + 1) (by have := HZ2.out; omega) rfl rfl
          go_wp2_with fail
          refine (show Calls Try.prog _ _ _ _ from hcon).mono ?_
          rintro e w9 ⟨rfl, ho, hst9⟩
          have HTL9 : Hid (Tl w w9 R (.slice oa on oc) (A.allP ++ A.nxtP m)) := Lib.hid ⟨ho.bel, HTL.out.row.stay hst9 (fun k hk => .inl hk) (fun k hk => .inr hk), fun k hk => ⟨(HTL.out.lt k hk).1, Nat.lt_of_lt_of_le (HTL.out.lt k hk).2 hst9.size⟩, HTL.out.own⟩
          have HOC9 := Lib.hid ho
          obtain ⟨dv, hdv⟩ : ∃ dv, (A.nxtS m).nxV ((m : Int) + 1) = dv := ⟨_, rfl⟩
          rw [hdv]
          obtain ⟨a3, c3, W6, R', hRR, hrun, htl, ht6, ho6⟩ := HTL9.out.push ((dv, tup0) : Plc) none 0 (SlL.nil _ _ _ (Nat.zero_le _)) (fun hl => absurd rfl hl) (by have e1 := HON.out.1; have e2 := HON.out.2; omega)
          simp only [plC, tup0, HON.out.1, List.length_nil] at hrun
          rw [HON.out.1] at htl ho6
          have HRUN := Lib.hid hrun
          have HTL6 := Lib.hid htl
          have HOC6 : Hid (One (fun k => Value.ownBlock (.slice a3 (on + 1) c3) = some k ∨ R' k) w W6 c (A.nxtS (m + 1)) (z + m + 1)) := Lib.hid (ho.app ht6 (fun k hk => ⟨.inl hk, HTL9.out.own k hk⟩) (fun k hk => by
            rcases hk with e | e
            · exact ⟨(ho6 k e).imp .inl id, htl.row.lt k e⟩
            · exact ⟨.inl (.inr (hRR rfl k e)), (htl.lt k e).2⟩))
          have HDV := Lib.hid hdv
          clear hcon ho hst9 hdv hrun htl ht6 ho6 hRR HOC HTL HTL9
          go_wp2_with (first | (at_builtin; refine append_stepW rfl _ _ 59 rfl _ _ _ _ rfl rfl (HRUN.out _) ?_) | fail)
          go_roundg (4 - (m + 1))
          case measure => have := HM4.out; omega
          case rel => exact ⟨m + 1, a3, on + 1, c3, R', rfl, by go_num, by have := HM4.out; omega, Nat.le_refl _, Lib.hid (by rw [nxtP_succ, ← List.append_assoc, HDV.out]; exact HTL6.out), Lib.hid ⟨by rw [nxtP_succ, ← List.append_assoc, List.length_append, HON.out.1]; rfl, by have := HON.out.2; omega⟩, HOC6⟩
        · have hmz : ¬ (m : Int) + 1 < 5 := by omega
          obtain rfl : m = 4 := by omega
          go_wp2_with fail
          go_ret
          exact ⟨_, rfl, R, HTL.out⟩

set_option maxRecDepth 100000 in
set_option maxHeartbeats 8000000 in
/-- The same list, told twice. -/
theorem alike_is (w : World) (R R2 : Nat → Prop) (a a2 : Option Addr) (c c2 n : Nat) (l : List Plc) (hn : l.length = n) (h1 : RowP R w (.slice a n c) l) (h2 : RowP R2 w (.slice a2 n c2) l) :
    Calls Try.prog 38 #[.slice a n c, .slice a2 n c2] w fun e w' => e = .returned (.bool true) ∧ Below w.heap.size w w' := by
  have HA := Lib.hid h1
  have HB := Lib.hid h2
  have HN := Lib.hid hn
  have hnb : n ≤ 9223372036854775807 := by obtain ⟨a3, c3, e, e1, e2⟩ := h1.form; rw [hn] at e1; unfold maxLen at e2; omega
  have HNB := Lib.hid hnb
  clear h1 h2 hn
  go_enter Try.func38, Try.ntmps38
  go_wp2_with fail
  go_loopg [5] n (fun gg s5 wr => ∃ i : Nat, s5 = .int .i64 i ∧ i ≤ n ∧ n - i ≤ gg ∧ Hid (Below w.heap.size w wr))
  case atStart => exact ⟨0, rfl, Nat.zero_le _, by omega, Lib.hid (Below.refl _ _)⟩
  case round =>
    obtain ⟨i, rfl, hi, hgg, HBW⟩ := hrel
    by_cases hlt : i < n
    · have hltz : (i : Int) < (n : Int) := by omega
      have HL := Lib.hid (And.intro hlt (And.intro hi hgg))
      obtain ⟨p, hp⟩ : ∃ p, l[i]? = some p := ⟨l[i]'(by rw [HN.out]; exact hlt), by simp [HN.out, hlt]⟩
      obtain ⟨b, pa, pc, rfl, hb0, hq1, -, k0, k1, k2, k3, k4, k5, k6, k7⟩ := (HA.out.below HBW.out).at hp
      obtain ⟨b2, pa2, pc2, rfl, hb2, hq2, -, l0, l1, l2, l3, l4, l5, l6, l7⟩ := (HB.out.below HBW.out).at hp
      obtain ⟨pn, hpn⟩ : ∃ pn, p.2.row.length = pn := ⟨_, rfl⟩
      rw [hpn] at k7 l7
      have HPL := Lib.hid hpn
      have HQ1 := Lib.hid (And.intro hq1 hq2)
      have HKA := Lib.hid (And.intro hb0 (And.intro k0 (And.intro k1 (And.intro k2 (And.intro k3 (And.intro k4 (And.intro k5 (And.intro k6 k7))))))))
      have HKB := Lib.hid (And.intro hb2 (And.intro l0 (And.intro l1 (And.intro l2 (And.intro l3 (And.intro l4 (And.intro l5 (And.intro l6 l7))))))))
      clear hp hpn hq1 hq2 hb0 k0 k1 k2 k3 k4 k5 k6 k7 hb2 l0 l1 l2 l3 l4 l5 l6 l7 hlt hi hgg
      go_upto_region 6 with (fail)
      have hdr := below_drw wr
      try simp only [List.append_eq, List.cons_append, List.nil_append]
      refine RX.wp_region_plan (fun w w' => Below w.heap.size w w') [.it (.slice (some ⟨b, 0, none⟩) n c), .it (.int .i64 i), .it (.pointer (some ⟨b, i * 8, none⟩)), .it (.pointer (some ⟨b, i * 8, none⟩)), .it (.int .i64 p.1), .it (.slice (some ⟨b2, 0, none⟩) n c2), .it (.int .i64 i), .it (.pointer (some ⟨b2, i * 8, none⟩)), .it (.pointer (some ⟨b2, i * 8, none⟩)), .it (.int .i64 p.1), .it (.bool false), .it (.bool false), .it (.slice (some ⟨b, 0, none⟩) n c), .it (.int .i64 i), .it (.pointer (some ⟨b, i * 8, none⟩)), .it (.pointer (some ⟨b, i * 8 + 1, none⟩)), .it (.agg #[.int .i64 p.2.no, .int .i64 p.2.id, .int .i64 p.2.mn, .int .i64 p.2.cm, .int .i64 p.2.mx, .int .i64 p.2.cx, .slice pa pn pc]), .it (.slice (some ⟨b2, 0, none⟩) n c2), .it (.int .i64 i), .it (.pointer (some ⟨b2, i * 8, none⟩)), .it (.pointer (some ⟨b2, i * 8 + 1, none⟩)), .it (.agg #[.int .i64 p.2.no, .int .i64 p.2.id, .int .i64 p.2.mn, .int .i64 p.2.cm, .int .i64 p.2.mx, .int .i64 p.2.cx, .slice pa2 pn pc2]), .it (.bool true), .it (.bool false), .it (.bool false)] (by kernel_rfl) (by kernel_rfl) (fun _ => Below.refl _ _) (fun _ _ _ => below_tr) ?_
      refine RX.seqP_value (fun _ => Below.refl _ _) _ (by first | rfl | simp) (fun w' hw' hctx => by (go_simp); (try first | with_reducible rfl | simp)) ?_
      simp only [Act.put, List.setIfInBounds_toArray, List.set_cons_zero, List.set_cons_succ]
      refine RX.seqP_value (fun _ => Below.refl _ _) _ (by first | rfl | simp) (fun w' hw' hctx => by (go_simp); (try first | with_reducible rfl | simp)) ?_
      simp only [Act.put, List.setIfInBounds_toArray, List.set_cons_zero, List.set_cons_succ]
      refine RX.seqP_value (fun _ => Below.refl _ _) _ (by first | rfl | simp) (fun w' hw' hctx => by (go_simp); (try first | with_reducible rfl | simp)) ?_
      simp only [Act.put, List.setIfInBounds_toArray, List.set_cons_zero, List.set_cons_succ]
      refine RX.seqP_value (fun _ => Below.refl _ _) _ (by first | rfl | simp) (fun w' hw' hctx => by (go_simp); (try first | with_reducible rfl | simp)) ?_
      simp only [Act.put, List.setIfInBounds_toArray, List.set_cons_zero, List.set_cons_succ]
      refine RX.seqP_value (fun _ => Below.refl _ _) _ (by first | rfl | simp) (fun w' hw' hctx => ?_) ?_
      · obtain ⟨hb0, c0, c1, c2, c3, c4, c5, c6, c7⟩ := HKA.out
        have hbe := (below_tr hdr hw')
        rw [← hbe.cell (p := ⟨b, _, none⟩) hb0] at c0 c1 c2 c3 c4 c5 c6 c7
        have hb9 := Nat.lt_of_lt_of_le hb0 hbe.size
        go_simp
        try first | with_reducible rfl | simp
      simp only [Act.put, List.setIfInBounds_toArray, List.set_cons_zero, List.set_cons_succ]
      refine RX.seqP_value (fun _ => Below.refl _ _) _ (by first | rfl | simp) (fun w' hw' hctx => by (go_simp); (try first | with_reducible rfl | simp)) ?_
      simp only [Act.put, List.setIfInBounds_toArray, List.set_cons_zero, List.set_cons_succ]
      refine RX.seqP_value (fun _ => Below.refl _ _) _ (by first | rfl | simp) (fun w' hw' hctx => by (go_simp); (try first | with_reducible rfl | simp)) ?_
      simp only [Act.put, List.setIfInBounds_toArray, List.set_cons_zero, List.set_cons_succ]
      refine RX.seqP_value (fun _ => Below.refl _ _) _ (by first | rfl | simp) (fun w' hw' hctx => by (go_simp); (try first | with_reducible rfl | simp)) ?_
      simp only [Act.put, List.setIfInBounds_toArray, List.set_cons_zero, List.set_cons_succ]
      refine RX.seqP_value (fun _ => Below.refl _ _) _ (by first | rfl | simp) (fun w' hw' hctx => by (go_simp); (try first | with_reducible rfl | simp)) ?_
      simp only [Act.put, List.setIfInBounds_toArray, List.set_cons_zero, List.set_cons_succ]
      refine RX.seqP_value (fun _ => Below.refl _ _) _ (by first | rfl | simp) (fun w' hw' hctx => ?_) ?_
      · obtain ⟨hb0, c0, c1, c2, c3, c4, c5, c6, c7⟩ := HKB.out
        have hbe := (below_tr hdr hw')
        rw [← hbe.cell (p := ⟨b2, _, none⟩) hb0] at c0 c1 c2 c3 c4 c5 c6 c7
        have hb9 := Nat.lt_of_lt_of_le hb0 hbe.size
        go_simp
        try first | with_reducible rfl | simp
      simp only [Act.put, List.setIfInBounds_toArray, List.set_cons_zero, List.set_cons_succ]
      refine RX.seqP_value (fun _ => Below.refl _ _) _ (by first | rfl | simp) (fun w' hw' hctx => by (go_simp); (try first | with_reducible rfl | simp)) ?_
      simp only [Act.put, List.setIfInBounds_toArray, List.set_cons_zero, List.set_cons_succ]
      refine RX.seqP_value (fun _ => Below.refl _ _) _ (by first | rfl | simp) (fun w' hw' hctx => by (go_simp); (try first | with_reducible rfl | simp)) ?_
      simp only [Act.put, List.setIfInBounds_toArray, List.set_cons_zero, List.set_cons_succ]
      refine RX.seqP_value (fun _ => Below.refl _ _) _ (by first | rfl | simp) (fun w' hw' hctx => by (go_simp); (try first | with_reducible rfl | simp)) ?_
      simp only [Act.put, List.setIfInBounds_toArray, List.set_cons_zero, List.set_cons_succ]
      refine RX.seqP_value (fun _ => Below.refl _ _) _ (by first | rfl | simp) (fun w' hw' hctx => by (go_simp); (try first | with_reducible rfl | simp)) ?_
      simp only [Act.put, List.setIfInBounds_toArray, List.set_cons_zero, List.set_cons_succ]
      refine RX.seqP_value (fun _ => Below.refl _ _) _ (by first | rfl | simp) (fun w' hw' hctx => by (go_simp); (try first | with_reducible rfl | simp)) ?_
      simp only [Act.put, List.setIfInBounds_toArray, List.set_cons_zero, List.set_cons_succ]
      refine RX.seqP_value (fun _ => Below.refl _ _) _ (by first | rfl | simp) (fun w' hw' hctx => by (go_simp); (try first | with_reducible rfl | simp)) ?_
      simp only [Act.put, List.setIfInBounds_toArray, List.set_cons_zero, List.set_cons_succ]
      refine RX.seqP_value (fun _ => Below.refl _ _) _ (by first | rfl | simp) (fun w' hw' hctx => ?_) ?_
      · obtain ⟨hb0, c0, c1, c2, c3, c4, c5, c6, c7⟩ := HKA.out
        have hbe := (below_tr hdr hw')
        rw [← hbe.cell (p := ⟨b, _, none⟩) hb0] at c0 c1 c2 c3 c4 c5 c6 c7
        have hb9 := Nat.lt_of_lt_of_le hb0 hbe.size
        go_simp
        try first | with_reducible rfl | simp
      simp only [Act.put, List.setIfInBounds_toArray, List.set_cons_zero, List.set_cons_succ]
      refine RX.seqP_value (fun _ => Below.refl _ _) _ (by first | rfl | simp) (fun w' hw' hctx => by (go_simp); (try first | with_reducible rfl | simp)) ?_
      simp only [Act.put, List.setIfInBounds_toArray, List.set_cons_zero, List.set_cons_succ]
      refine RX.seqP_value (fun _ => Below.refl _ _) _ (by first | rfl | simp) (fun w' hw' hctx => by (go_simp); (try first | with_reducible rfl | simp)) ?_
      simp only [Act.put, List.setIfInBounds_toArray, List.set_cons_zero, List.set_cons_succ]
      refine RX.seqP_value (fun _ => Below.refl _ _) _ (by first | rfl | simp) (fun w' hw' hctx => by (go_simp); (try first | with_reducible rfl | simp)) ?_
      simp only [Act.put, List.setIfInBounds_toArray, List.set_cons_zero, List.set_cons_succ]
      refine RX.seqP_value (fun _ => Below.refl _ _) _ (by first | rfl | simp) (fun w' hw' hctx => by (go_simp); (try first | with_reducible rfl | simp)) ?_
      simp only [Act.put, List.setIfInBounds_toArray, List.set_cons_zero, List.set_cons_succ]
      refine RX.seqP_value (fun _ => Below.refl _ _) _ (by first | rfl | simp) (fun w' hw' hctx => ?_) ?_
      · obtain ⟨hb0, c0, c1, c2, c3, c4, c5, c6, c7⟩ := HKB.out
        have hbe := (below_tr hdr hw')
        rw [← hbe.cell (p := ⟨b2, _, none⟩) hb0] at c0 c1 c2 c3 c4 c5 c6 c7
        have hb9 := Nat.lt_of_lt_of_le hb0 hbe.size
        go_simp
        try first | with_reducible rfl | simp
      simp only [Act.put, List.setIfInBounds_toArray, List.set_cons_zero, List.set_cons_succ]
      refine RX.seqP_call (24) #[.agg #[.int .i64 p.2.no, .int .i64 p.2.id, .int .i64 p.2.mn, .int .i64 p.2.cm, .int .i64 p.2.mx, .int .i64 p.2.cx, .slice pa pn pc], .agg #[.int .i64 p.2.no, .int .i64 p.2.id, .int .i64 p.2.mn, .int .i64 p.2.cm, .int .i64 p.2.mx, .int .i64 p.2.cx, .slice pa2 pn pc2]] (.bool true) (by first | rfl | simp) (fun w' hw' hctx => ?_) (fun w' hw' hctx => hsame_sl w' p.2 pa pa2 pc pc2 pn HPL.out (HQ1.out.1.below (below_tr hdr hw')) (HQ1.out.2.below (below_tr hdr hw'))) ?_
      · go_simp
      simp only [Act.put, List.setIfInBounds_toArray, List.set_cons_zero, List.set_cons_succ]
      refine RX.seqP_value (fun _ => Below.refl _ _) _ (by first | rfl | simp) (fun w' hw' hctx => by (go_simp); (try first | with_reducible rfl | simp)) ?_
      simp only [Act.put, List.setIfInBounds_toArray, List.set_cons_zero, List.set_cons_succ]
      refine RX.seqP_value (fun _ => Below.refl _ _) _ (by first | rfl | simp) (fun w' hw' hctx => by (go_simp); (try first | with_reducible rfl | simp)) ?_
      simp only [Act.put, List.setIfInBounds_toArray, List.set_cons_zero, List.set_cons_succ]
      refine RX.seqP_nil (fun v2 hR hctx _ => ?_)
      have hv2 := below_tr hdr hR
      clear hctx hR
      have HBW2 : Hid (Below w.heap.size w v2) := Lib.hid (below_tr HBW.out hv2)
      clear hv2 hdr
      go_wp2_with fail
      go_roundg (n - (i + 1))
      case measure => have := HL.out; omega
      case rel => exact ⟨i + 1, by go_num, by have := HL.out; omega, Nat.le_refl _, HBW2⟩
    · have hltz : ¬ (i : Int) < (n : Int) := by omega
      go_wp2_with fail
      go_ret
      exact ⟨rfl, HBW.out⟩

end Go.Proofs.Ytkedkeelbbfmkaa
