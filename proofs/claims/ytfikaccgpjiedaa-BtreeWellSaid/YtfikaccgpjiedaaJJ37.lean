/-
  Slices of entries as rows of cells; two of them put together; trees as the laws make them.
-/
import Derived.Test.YtfikaccgpjiedaaJBTree2
import Derived.Test.YtfikaccgpjiedaaJJ36
import Derived.Test.YtfikaccgpjiedaaJJ10
namespace Go.Proofs.Ytfikaccgpjiedaa
open Go.RowKit Go.Lib

/-- The cells of a slice of entries, one by one. -/
theorem SlEn.ces {G : Nat → Prop} {W : World} {a : Option Addr} {c : Nat} {l : List Ent} (h : SlEn G W a c l) :
    ∃ es : List CE, entsC es = l ∧ (∀ W', Below W.heap.size W W' → Src Try.prog 2 33 (.slice a l.length c) l.length (flatC es) W') ∧ ∀ x ∈ es, SlG G W x.a x.c x.e.key := by
  by_cases hl : l = []
  · subst hl
    refine ⟨[], rfl, ?_, fun _ h => absurd h List.not_mem_nil⟩
    obtain ⟨ie, E⟩ := elE
    intro W' _
    cases a with
    | none => exact Src.ofNil W' E.ut c
    | some p => exact Src.ofSlice W' E.ut p 0 c [] rfl (fun j u hu => by simp at hu) (fun _ h => absurd h List.not_mem_nil)
  · obtain ⟨b, o, rfl, hat⟩ := h.at' hl
    haveI : Inhabited CE := ⟨⟨none, 0, ⟨[], 0⟩⟩⟩
    have hk : ∀ i, i < l.length → ∃ x : CE, l[i]? = some x.e ∧ W.cell? ⟨b, o + i * 2, none⟩ = some (.slice x.a x.e.key.length x.c) ∧ W.cell? ⟨b, o + i * 2 + 1, none⟩ = some (.int .i64 x.e.id) ∧ SlG G W x.a x.c x.e.key ∧ b < W.heap.size := fun i hi => by
      obtain ⟨y, hy⟩ : ∃ y, l[i]? = some y := ⟨l[i], by simp [hi]⟩
      obtain ⟨ka, kc, h0, h1, h2, h3, _⟩ := hat i y hy
      exact ⟨⟨ka, kc, y⟩, hy, h0, h1, h2, h3⟩
    obtain ⟨f, hf⟩ := Deep.choose_lt hk
    have hget : ∀ (i : Nat) x, ((List.range l.length).map f)[i]? = some x → i < l.length ∧ x = f i := fun i x hx => by
      rw [List.getElem?_map] at hx
      obtain ⟨j, h1, rfl⟩ := Option.map_eq_some_iff.1 hx
      obtain ⟨h2, h3⟩ := List.getElem?_eq_some_iff.1 h1
      have h4 : i < l.length := by simpa using h2
      rw [List.getElem_range] at h3
      subst h3
      exact ⟨h4, rfl⟩
    have hlen : ((List.range l.length).map f).length = l.length := by simp
    have hent : entsC ((List.range l.length).map f) = l := by
      apply List.ext_getElem?
      intro i
      by_cases hi : i < l.length
      · rw [(hf i hi).1]
        simp [entsC, hi]
      · have h1 : (entsC ((List.range l.length).map f)).length = l.length := by unfold entsC; simp
        rw [List.getElem?_eq_none (by omega), List.getElem?_eq_none (by omega)]
    refine ⟨(List.range l.length).map f, hent, ?_, fun x hx => ?_⟩
    · intro W' hb
      obtain ⟨ie, E⟩ := elE
      have hcs : ∀ u ∈ flatC ((List.range l.length).map f), u.oneCell' = true := fun u hu => by
        obtain ⟨x, _, hx⟩ := List.mem_flatMap.1 hu
        exact cs_one x u hx
      refine Src.ofSlice W' E.ut ⟨b, o, none⟩ l.length c _ (by rw [flatC_len, hlen]) (fun j u hu => ?_) hcs
      have hjl := (List.getElem?_eq_some_iff.1 hu).1
      rw [flatC_len, hlen] at hjl
      obtain ⟨i, hij⟩ : ∃ i, j / 2 = i := ⟨_, rfl⟩
      have hi : i < l.length := by omega
      have hx : ((List.range l.length).map f)[i]? = some (f i) := by simp [hi]
      obtain ⟨c0, c1⟩ := flatC_at _ _ _ hx
      obtain ⟨_, q0, q1, _, hlt⟩ := hf i hi
      have hadd : (⟨b, o, none⟩ : Addr).add j = ⟨b, o + j, none⟩ := by
        unfold Addr.add
        split
        · rename_i h; rw [h]; rfl
        · rfl
      rw [hadd, hb.cell (p := ⟨b, o + j, none⟩) hlt]
      rcases (by omega : j = i * 2 ∨ j = i * 2 + 1) with h2 | h2
      · rw [h2] at hu
        rw [c0] at hu
        cases hu
        rw [h2]; exact q0
      · rw [h2] at hu
        rw [c1] at hu
        cases hu
        rw [h2, ← Nat.add_assoc]; exact q1
    · obtain ⟨i, hi, rfl⟩ := List.mem_map.1 hx
      exact (hf i (by simpa using hi)).2.2.2.1

/-- A row of entries' cells, as a slice of entries. -/
theorem slEn_of_row {G : Nat → Prop} {W : World} {a : Option Addr} {m c : Nat} {es : List CE} (h : RowS 2 W a m c (flatC es)) (hel : es.length = m) (hk : ∀ x ∈ es, SlG G W x.a x.c x.e.key ∧ I64 x.e.id) (hb : ∀ b o, a = some ⟨b, o, none⟩ → G b) : SlEn G W a c (entsC es) := by
  refine ⟨by rw [entsC_len, hel]; exact h.nc, h.cm, fun hne => ?_, fun y hy => ?_⟩
  · rcases h.at' with ⟨_, h0⟩ | ⟨b, o, rfl, hb', _, _⟩
    · have h1 := h.nc
      have h2 : es.length = 0 := by omega
      have h3 : es = [] := List.eq_nil_of_length_eq_zero h2
      rw [h3] at hne
      exact absurd rfl hne
    · refine ⟨b, o, rfl, fun i y hy => ?_⟩
      obtain ⟨x, hx, rfl⟩ : ∃ x, es[i]? = some x ∧ x.e = y := by
        unfold entsC at hy
        rw [List.getElem?_map] at hy
        obtain ⟨x, h1, h2⟩ := Option.map_eq_some_iff.1 hy
        exact ⟨x, h1, h2⟩
      obtain ⟨b', o', e3, d0, d1, _, _, _⟩ := ent_at (by rw [← hel] at h; exact h) hx
      cases e3
      exact ⟨x.a, x.c, d0, d1, (hk x (List.mem_of_getElem? hx)).1, hb', hb b o rfl⟩
  · obtain ⟨x, hx, rfl⟩ := List.mem_map.1 hy
    exact (hk x hx).2

/-- append(append([]Entry{}, a...), b...). -/
theorem two_ents {G G' : Nat → Prop} {W : World} {a a' : Option Addr} {c c' : Nat} {l l' : List Ent} (h : SlEn G W a c l) (h' : SlEn G' W a' c' l') (hl : l.length ≤ 1000) (hl' : l'.length ≤ 1000) :
    ∃ a1 c1 W1 a2 c2 W2, (Builtin.append_ #[33, 33] 33 #[.slice (some ⟨W.heap.size, 0, none⟩) 0 0, .slice a l.length c]).run Try.prog (W.alloc (.cells #[] 37)) = .ok (.slice a1 l.length c1) W1 ∧
      (Builtin.append_ #[33, 33] 33 #[.slice a1 l.length c1, .slice a' l'.length c']).run Try.prog W1 = .ok (.slice a2 (l.length + l'.length) c2) W2 ∧ SlEn (fun _ => True) W2 a2 c2 (l ++ l') ∧ Below W.heap.size W W2 := by
  obtain ⟨ie, E⟩ := elE
  have hal := Below.allocs W (.cells #[] 37)
  have hr0 : RowS 2 (W.alloc (.cells #[] 37)) (some ⟨W.heap.size, 0, none⟩) 0 0 [] := ⟨rfl, Nat.le_refl _, by unfold maxLen; omega, fun _ h => absurd h List.not_mem_nil, .inr ⟨W.heap.size, 0, rfl, by simp, fun j u hu => by simp at hu, fun j hj => by omega⟩⟩
  obtain ⟨es, he, hs, hk⟩ := h.ces
  obtain ⟨a1, c1, W1, r1, row1, sub1, t1⟩ := row_app E hr0 _ l.length _ (hs _ hal) (by omega)
  have b1 : Below W.heap.size W W1 := hal.trans ((t1.touch (G := fun _ => False) fun k p _ hf => by have := (slf_some.1 hf).2; omega).below (fun _ h => h.elim) hal.size)
  rw [Nat.zero_add] at row1
  obtain ⟨es', he', hs', hk'⟩ := h'.ces
  obtain ⟨a2, c2, W2, r2, row2, sub2, t2⟩ := row_app E row1 _ l'.length _ (hs' _ b1) (by omega)
  have hnew : ∀ k p, SlF 2 a1 c1 k p → W.heap.size ≤ k := fun k p hf => by
    rcases sub1 k p hf with h1 | h1
    · have := (slf_some.1 h1).1; omega
    · unfold Fr at h1
      have := hal.size
      omega
  have b2 : Below W.heap.size W W2 := b1.trans ((t2.touch (G := fun k => W.heap.size ≤ k) fun k p _ hf => hnew k p hf).below (fun _ h => h) b1.size)
  have hlen : es.length = l.length := by rw [← he, entsC_len]
  have hlen' : es'.length = l'.length := by rw [← he', entsC_len]
  refine ⟨a1, c1, W1, a2, c2, W2, by rw [← Nat.zero_add l.length]; simpa using r1 _, r2 _, ?_, b2⟩
  have e1 : entsC (es ++ es') = l ++ l' := by rw [← he, ← he']; simp [entsC]
  rw [← e1]
  refine slEn_of_row (by simpa [flatC_app] using row2) (by simp [hlen, hlen']) (fun x hx => ?_) (fun _ _ _ => trivial)
  have hsl : ∀ y : CE, y ∈ es ++ es' → I64 y.e.id := fun y hy => by
    rcases List.mem_append.1 hy with hy | hy
    · exact h.ids _ (by rw [← he]; exact List.mem_map.2 ⟨y, hy, rfl⟩)
    · exact h'.ids _ (by rw [← he']; exact List.mem_map.2 ⟨y, hy, rfl⟩)
  refine ⟨?_, hsl x hx⟩
  rcases List.mem_append.1 hx with hx | hx
  · exact ((hk x hx).below b2).mono fun _ _ _ => trivial
  · exact ((hk' x hx).below b2).mono fun _ _ _ => trivial

end Go.Proofs.Ytfikaccgpjiedaa

/-
  The law BtreeParts, walked.
-/
namespace Go.Proofs.Ytfikaccgpjiedaa
open Go.RowKit Go.Lib

theorem own_many (T : TreeSpec) {w W : World} (hb : Below w.heap.size w W) (a : Option Addr) (c n : Nat) (l : List Stp) (L : List Ent) (hn : l.length = n) (hs : largeS l = false) (hL : allS ltE (l.map Stp.en) = L) (h1 : SlSt W a c l) :
    Calls Try.prog 19 #[.slice a n c] W fun e w' => ∃ g F, e = .returned (nodeV g) ∧ Below W.heap.size W w' ∧ Own1 T w g L F w' ∧ ∀ k, F k → W.heap.size ≤ k := by
  subst hL
  refine (many_is T a c n l hn (small_steps hs) W h1).mono ?_
  rintro e w' ⟨g, F, rfl, q1, q2, q3⟩
  exact ⟨g, F, rfl, q3, ⟨q1, fun k hk => Nat.le_trans hb.size (q2 k hk)⟩, q2⟩

theorem SlEn.len {G : Nat → Prop} {W : World} {a : Option Addr} {c : Nat} {l : List Ent} (h : SlEn G W a c l) : l.length ≤ c := h.lc

/-- The numbers of the entries of a key, among the first i. -/
def idsUp (key : List Val) (L : List Ent) (i : Nat) : List Int := idsOf key (L.take i)
theorem idsUp_next {key : List Val} {L : List Ent} {i : Nat} {x : Ent} (hx : L[i]? = some x) (z : Bool) (hz : decide (x.key = key) = z) : idsUp key L (i + 1) = idsUp key L i ++ if z then [x.id] else [] := by
  subst hz
  unfold idsUp idsOf
  rw [List.take_add_one, hx]
  by_cases h : x.key = key
  · simp [h]
  · simp [h]
theorem idsUp_all {key : List Val} {L : List Ent} {m : Nat} (h : L.length = m) : idsUp key L m = idsOf key L := by
  unfold idsUp
  rw [List.take_of_length_le (Nat.le_of_eq h)]
theorem idsUp_len (key : List Val) (L : List Ent) (i : Nat) : (idsUp key L i).length ≤ i := by
  unfold idsUp idsOf
  rw [List.length_map]
  exact Nat.le_trans (List.length_filter_le _ _) (by rw [List.length_take]; omega)

set_option maxRecDepth 100000 in
set_option maxHeartbeats 4000000 in
theorem parts_large (T : TreeSpec) (a0 : Option Addr) (c0 n0 : Nat) (l0 : List Stp) (a1 : Option Addr) (c1 n1 : Nat) (l1 : List Val) (hn0 : l0.length = n0) (hn1 : l1.length = n1) (w : World) (hs0 : SlSt w a0 c0 l0) (hs1 : SlL w a1 c1 l1) (hz : largeS l0 = true) :
    Calls Try.prog 4 #[.slice a0 n0 c0, .slice a1 n1 c1] w fun e w' => e = .returned (.bool true) ∧ Below w.heap.size w w' := by
  have B1 : Hid (Below w.heap.size w w) := Lib.hid (Below.refl _ _)
  have HS0 := Lib.hid hs0
  have HS1 := Lib.hid hs1
  have HN0 := Lib.hid hn0
  have HN1 := Lib.hid hn1
  have HZ := Lib.hid hz
  clear hs0 hs1 hn0 hn1 hz
  go_enter Try.func4, Try.ntmps4
  have hcon := works_is T w
  go_wp2_with fail
  refine (show Calls Try.prog _ _ _ _ from hcon).mono ?_
  rintro e w1 ⟨rfl, hb1⟩
  have B2 := Lib.hid (below_tr B1.out hb1)
  clear B1
  clear hcon hb1
  have hcon := large_is a0 c0 n0 l0 true HN0.out HZ.out _ (HS0.out.below B2.out)
  go_wp2_with fail
  refine (show Calls Try.prog _ _ _ _ from hcon).mono ?_
  rintro e w2 ⟨rfl, hb2⟩
  have B3 := Lib.hid (below_tr B2.out hb2)
  clear B2
  clear hcon hb2
  have hcon := works_is T w2
  go_wp2_with fail
  refine (show Calls Try.prog _ _ _ _ from hcon).mono ?_
  rintro e w3 ⟨rfl, hb3⟩
  have B4 := Lib.hid (below_tr B3.out hb3)
  clear B3
  clear hcon hb3
  go_wp2_with fail
  go_ret
  exact ⟨rfl, B4.out⟩

set_option maxRecDepth 100000 in
set_option maxHeartbeats 4000000 in
theorem parts_none (T : TreeSpec) (a0 : Option Addr) (c0 n0 : Nat) (l0 : List Stp) (a1 : Option Addr) (c1 n1 : Nat) (l1 : List Val) (hn0 : l0.length = n0) (hn1 : l1.length = n1) (w : World) (hs0 : SlSt w a0 c0 l0) (hs1 : SlL w a1 c1 l1) (hz : largeS l0 = false) (h0 : n1 = 0) :
    Calls Try.prog 4 #[.slice a0 n0 c0, .slice a1 n1 c1] w fun e w' => e = .returned (.bool true) ∧ Below w.heap.size w w' := by
  subst h0
  have B1 : Hid (Below w.heap.size w w) := Lib.hid (Below.refl _ _)
  have HS0 := Lib.hid hs0
  have HS1 := Lib.hid hs1
  have HN0 := Lib.hid hn0
  have HN1 := Lib.hid hn1
  have HZ := Lib.hid hz
  clear hs0 hs1 hn0 hn1 hz
  go_enter Try.func4, Try.ntmps4
  have hcon := works_is T w
  go_wp2_with fail
  refine (show Calls Try.prog _ _ _ _ from hcon).mono ?_
  rintro e w1 ⟨rfl, hb1⟩
  have B2 := Lib.hid (below_tr B1.out hb1)
  clear B1
  clear hcon hb1
  have hcon := large_is a0 c0 n0 l0 false HN0.out HZ.out _ (HS0.out.below B2.out)
  go_wp2_with fail
  refine (show Calls Try.prog _ _ _ _ from hcon).mono ?_
  rintro e w2 ⟨rfl, hb2⟩
  have B3 := Lib.hid (below_tr B2.out hb2)
  clear B2
  clear hcon hb2
  have hcon := works_is T w2
  go_wp2_with fail
  refine (show Calls Try.prog _ _ _ _ from hcon).mono ?_
  rintro e w3 ⟨rfl, hb3⟩
  have B4 := Lib.hid (below_tr B3.out hb3)
  clear B3
  clear hcon hb3
  go_wp2_with fail
  go_ret
  exact ⟨rfl, B4.out⟩

set_option maxRecDepth 100000 in
set_option maxHeartbeats 4000000 in
theorem parts_wide (T : TreeSpec) (a0 : Option Addr) (c0 n0 : Nat) (l0 : List Stp) (a1 : Option Addr) (c1 n1 : Nat) (l1 : List Val) (hn0 : l0.length = n0) (hn1 : l1.length = n1) (w : World) (hs0 : SlSt w a0 c0 l0) (hs1 : SlL w a1 c1 l1) (hz : largeS l0 = false) (h0 : n1 ≠ 0) (r : Int) (hr : sizA l1 4 = r) (hr5 : 5000 < r) :
    Calls Try.prog 4 #[.slice a0 n0 c0, .slice a1 n1 c1] w fun e w' => e = .returned (.bool true) ∧ Below w.heap.size w w' := by
  have h0z : ((n1 : Int) == 0) = false := by simp; omega
  have B1 : Hid (Below w.heap.size w w) := Lib.hid (Below.refl _ _)
  have HS0 := Lib.hid hs0
  have HS1 := Lib.hid hs1
  have HN0 := Lib.hid hn0
  have HN1 := Lib.hid hn1
  have HZ := Lib.hid hz
  have HR := Lib.hid hr
  clear hs0 hs1 hn0 hn1 hz hr
  go_enter Try.func4, Try.ntmps4
  have hcon := works_is T w
  go_wp2_with fail
  refine (show Calls Try.prog _ _ _ _ from hcon).mono ?_
  rintro e w1 ⟨rfl, hb1⟩
  have B2 := Lib.hid (below_tr B1.out hb1)
  clear B1
  clear hcon hb1
  have hcon := large_is a0 c0 n0 l0 false HN0.out HZ.out _ (HS0.out.below B2.out)
  go_wp2_with fail
  refine (show Calls Try.prog _ _ _ _ from hcon).mono ?_
  rintro e w2 ⟨rfl, hb2⟩
  have B3 := Lib.hid (below_tr B2.out hb2)
  clear B2
  clear hcon hb2
  have hcon := size_is a1 c1 n1 l1 r HN1.out HR.out _ (HS1.out.below B3.out)
  go_wp2_with fail
  refine (show Calls Try.prog _ _ _ _ from hcon).mono ?_
  rintro e w3 ⟨rfl, hb3⟩
  have B4 := Lib.hid (below_tr B3.out hb3)
  clear B3
  clear hcon hb3
  have hcon := works_is T w3
  go_wp2_with fail
  refine (show Calls Try.prog _ _ _ _ from hcon).mono ?_
  rintro e w4 ⟨rfl, hb4⟩
  have B5 := Lib.hid (below_tr B4.out hb4)
  clear B4
  clear hcon hb4
  go_wp2_with fail
  go_ret
  exact ⟨rfl, B5.out⟩

set_option maxRecDepth 100000 in
set_option maxHeartbeats 4000000 in
theorem parts_main (T : TreeSpec) (a0 : Option Addr) (c0 n0 : Nat) (l0 : List Stp) (a1 : Option Addr) (c1 n1 : Nat) (l1 : List Val) (hn0 : l0.length = n0) (hn1 : l1.length = n1) (w : World) (hs0 : SlSt w a0 c0 l0) (hs1 : SlL w a1 c1 l1) (hz : largeS l0 = false) (h0 : n1 ≠ 0) (r : Int) (hr : sizA l1 4 = r) (hr5 : ¬ 5000 < r) :
    Calls Try.prog 4 #[.slice a0 n0 c0, .slice a1 n1 c1] w fun e w' => e = .returned (.bool true) ∧ Below w.heap.size w w' := by
  have h0z : ((n1 : Int) == 0) = false := by simp; omega
  have h75 : n1 ≤ 7500 := by
    have h1 := (sizA_low l1 4 (by omega)).2 (by omega)
    omega
  have hne : l1 ≠ [] := by rintro rfl; exact h0 hn1.symm
  obtain ⟨L, hL⟩ : ∃ L, allS ltE (l0.map Stp.en) = L := ⟨_, rfl⟩
  obtain ⟨m, hm⟩ : ∃ m, L.length = m := ⟨_, rfl⟩
  have hL8 : m ≤ 800 := by
    have h1 := length_allS (l0.map Stp.en)
    have h2 := (small_steps hz).1
    rw [hL, List.length_map] at h1
    omega
  obtain ⟨X1, hX1⟩ : ∃ X, walkE [] l1 L = X := ⟨_, rfl⟩
  obtain ⟨m1, hm1⟩ : ∃ m, X1.length = m := ⟨_, rfl⟩
  obtain ⟨X2, hX2⟩ : ∃ X, walkE l1 [] L = X := ⟨_, rfl⟩
  obtain ⟨m2, hm2⟩ : ∃ m, X2.length = m := ⟨_, rfl⟩
  obtain ⟨ids, hids⟩ : ∃ ids, idsOf l1 L = ids := ⟨_, rfl⟩
  obtain ⟨mi, hmi⟩ : ∃ m, ids.length = m := ⟨_, rfl⟩
  have hb1 : m1 ≤ 800 := by
    have := List.length_filter_le (fun e : Ent => !ltK e.key [] && (l1.isEmpty || ltK e.key l1)) L
    unfold walkE at hX1
    rw [hX1] at this
    omega
  have hb2 : m2 ≤ 800 := by
    have := List.length_filter_le (fun e : Ent => !ltK e.key l1 && (([] : List Val).isEmpty || ltK e.key [])) L
    unfold walkE at hX2
    rw [hX2] at this
    omega
  have B1 : Hid (Below w.heap.size w w) := Lib.hid (Below.refl _ _)
  have HS0 := Lib.hid hs0
  have HS1 := Lib.hid hs1
  have HN0 := Lib.hid hn0
  have HN1 := Lib.hid hn1
  have HZ := Lib.hid hz
  have HR := Lib.hid hr
  have HNE := Lib.hid hne
  have HL := Lib.hid hL
  have HM := Lib.hid hm
  have HX1 := Lib.hid hX1
  have HM1 := Lib.hid hm1
  have HX2 := Lib.hid hX2
  have HM2 := Lib.hid hm2
  have HIDS := Lib.hid hids
  have HMI := Lib.hid hmi
  clear hs0 hs1 hn0 hn1 hz hr hne hL hm hX1 hm1 hX2 hm2 hids hmi
  go_enter Try.func4, Try.ntmps4
  have hcon := works_is T w
  go_wp2_with fail
  refine (show Calls Try.prog _ _ _ _ from hcon).mono ?_
  rintro e w1 ⟨rfl, hb1⟩
  have B2 := Lib.hid (below_tr B1.out hb1)
  clear B1
  clear hcon hb1
  have hcon := large_is a0 c0 n0 l0 false HN0.out HZ.out _ (HS0.out.below B2.out)
  go_wp2_with fail
  refine (show Calls Try.prog _ _ _ _ from hcon).mono ?_
  rintro e w2 ⟨rfl, hb2⟩
  have B3 := Lib.hid (below_tr B2.out hb2)
  clear B2
  clear hcon hb2
  have hcon := size_is a1 c1 n1 l1 r HN1.out HR.out _ (HS1.out.below B3.out)
  go_wp2_with fail
  refine (show Calls Try.prog _ _ _ _ from hcon).mono ?_
  rintro e w3 ⟨rfl, hb3⟩
  have B4 := Lib.hid (below_tr B3.out hb3)
  clear B3
  clear hcon hb3
  have hcon := own_many T B4.out a0 c0 n0 l0 L HN0.out HZ.out HL.out (HS0.out.below B4.out)
  go_wp2_with fail
  refine (show Calls Try.prog _ _ _ _ from hcon).mono ?_
  rintro e w4 ⟨g, F, rfl, hb4, hO, hF⟩
  have B5 := Lib.hid (below_tr B4.out hb4)
  clear B4
  clear hcon hb4
  have t_n4 := Lib.hid hO
  clear hO
  clear hF
  unfold nodeV
  have hsrt := T.srt (t_n4.out).is
  have hcat : X1 ++ X2 = L := by rw [← HX1.out, ← HX2.out]; exact walk_two hsrt l1 HNE.out
  have HCAT := Lib.hid hcat
  clear hsrt hcat
  have hcon := own_walk t_n4.out none none 0 0 0 0 [] [] L m rfl rfl (by omega) (by omega) (by rw [HM.out]; omega) (SlL.nil _ none 0 (Nat.zero_le _)) (SlL.nil _ none 0 (Nat.zero_le _)) (walk_all L) HM.out
  unfold nodeV at hcon
  go_wp2_with fail
  refine (show Calls Try.prog _ _ _ _ from hcon).mono ?_
  rintro e w5 ⟨a2, c2, rfl, hb5, hs⟩
  have t_6 := Lib.hid (t_n4.out.below hb5)
  have B6 := Lib.hid (below_tr B5.out hb5)
  clear t_n4 B5
  clear hcon hb5
  have all_n5 := Lib.hid hs
  clear hs
  have hcon := own_walk t_6.out none a1 0 c1 0 n1 [] l1 X1 m1 rfl HN1.out (by omega) (by omega) (by rw [HM.out]; omega) (SlL.nil _ none 0 (Nat.zero_le _)) (HS1.out.below B6.out) HX1.out HM1.out
  unfold nodeV at hcon
  go_wp2_with fail
  refine (show Calls Try.prog _ _ _ _ from hcon).mono ?_
  rintro e w6 ⟨a3, c3, rfl, hb6, hs⟩
  have t_7 := Lib.hid (t_6.out.below hb6)
  have all_7 := Lib.hid (all_n5.out.below hb6)
  have B7 := Lib.hid (below_tr B6.out hb6)
  clear t_6 all_n5 B6
  clear hcon hb6
  have bel_n6 := Lib.hid hs
  clear hs
  have hcon := own_walk t_7.out a1 none c1 0 n1 0 l1 [] X2 m2 HN1.out rfl (by omega) (by omega) (by rw [HM.out]; omega) (HS1.out.below B7.out) (SlL.nil _ none 0 (Nat.zero_le _)) HX2.out HM2.out
  unfold nodeV at hcon
  go_wp2_with fail
  refine (show Calls Try.prog _ _ _ _ from hcon).mono ?_
  rintro e w7 ⟨a4, c4, rfl, hb7, hs⟩
  have t_8 := Lib.hid (t_7.out.below hb7)
  have all_8 := Lib.hid (all_7.out.below hb7)
  have bel_8 := Lib.hid (bel_n6.out.below hb7)
  have B8 := Lib.hid (below_tr B7.out hb7)
  clear t_7 all_7 bel_n6 B7
  clear hcon hb7
  have abo_n7 := Lib.hid hs
  clear hs
  obtain ⟨a5, c5, W5, a6, c6, W6, r1, r2, hse, hb6⟩ := two_ents bel_8.out abo_n7.out (by rw [HM1.out]; omega) (by rw [HM2.out]; omega)
  rw [HM1.out] at r1 r2
  rw [HM2.out] at r2
  have R1 := Lib.hid r1
  have R2 := Lib.hid r2
  clear r1 r2
  clear bel_8
  clear abo_n7
  have t_9 := Lib.hid (t_8.out.below hb6)
  have all_9 := Lib.hid (all_8.out.below hb6)
  have B9 := Lib.hid (below_tr B8.out hb6)
  clear t_8 all_8 B8
  have CAT_0 := Lib.hid hse
  clear hse hb6
  have hcon := sameE_is _ _ a6 a2 c6 c2 (m1 + m2) m (X1 ++ X2) L true (by rw [List.length_append, HM1.out, HM2.out]) HM.out (by rw [HCAT.out]; simp) _ CAT_0.out all_9.out
  go_wp2_with (at_builtin; first | (refine append_dst 40 rfl ?_; refine append_stepW rfl _ _ 33 rfl _ _ _ _ rfl rfl R1.out ?_) | (refine append_dst 42 rfl ?_; refine append_stepW rfl _ _ 33 rfl _ _ _ _ rfl rfl R2.out ?_))
  refine (show Calls Try.prog _ _ _ _ from hcon).mono ?_
  rintro e w8 ⟨rfl, hb8⟩
  have t_10 := Lib.hid (t_9.out.below hb8)
  have all_10 := Lib.hid (all_9.out.below hb8)
  have cat_10 := Lib.hid (CAT_0.out.below hb8)
  have B10 := Lib.hid (below_tr B9.out hb8)
  clear t_9 all_9 CAT_0 B9
  clear hcon hb8
  clear cat_10
  have hcon := own_walk t_10.out a1 a1 c1 c1 n1 n1 l1 l1 [] 0 HN1.out HN1.out (by omega) (by omega) (by rw [HM.out]; omega) (HS1.out.below B10.out) (HS1.out.below B10.out) (walk_same L l1 HNE.out) rfl
  unfold nodeV at hcon
  go_wp2_with fail
  refine (show Calls Try.prog _ _ _ _ from hcon).mono ?_
  rintro e w9 ⟨a7, c7, rfl, hb9, hs⟩
  have t_11 := Lib.hid (t_10.out.below hb9)
  have all_11 := Lib.hid (all_10.out.below hb9)
  have B11 := Lib.hid (below_tr B10.out hb9)
  clear t_10 all_10 B10
  clear hcon hb9
  clear hs
  have S_r12 := Lib.hid (HS0.out.below B11.out)
  have K_r12 := Lib.hid (HS1.out.below B11.out)
  have t_r12 := Lib.hid (t_11.out)
  have all_r12 := Lib.hid (all_11.out)
  have HB12 := B11
  clear HS0 HS1 t_11 all_11 B11
  have B13 : Hid (Below w9.heap.size w9 w9) := Lib.hid (Below.refl _ _)
  have h0z0 := h0z
  clear h0z0
  go_wp2_with fail
  go_loopg [9, 10] m (fun gg s9 s10 wr => ∃ (i k : Nat) (ar : Option Addr) (cr : Nat), s10 = .int .i64 i ∧ s9 = .slice ar k cr ∧ i ≤ m ∧ m - i ≤ gg ∧ Hid ((idsUp l1 L i).length = k) ∧ Hid (RowS 1 wr ar k cr ((idsUp l1 L i).map (Value.int .i64))) ∧ Hid (∀ b q, SlF 1 ar cr b q → w9.heap.size ≤ b) ∧ Hid (Below w9.heap.size w9 wr))
  case atStart => exact ⟨0, 0, none, 0, rfl, rfl, Nat.zero_le _, by omega, Lib.hid rfl, Lib.hid (RowS.nil _ _), Lib.hid (fun b q h => absurd h (slf_nil _ _ _ _)), Lib.hid (Below.refl _ _)⟩
  case round =>
    obtain ⟨i, k, ar, cr, rfl, rfl, him, hgg, HKL, HROW, HNEW, BW⟩ := hrel
    by_cases hlt : i < m
    · have hltz : (i : Int) < (m : Int) := by omega
      have z1 : ¬ m ≤ i := by omega
      obtain ⟨x, hx⟩ : ∃ x, L[i]? = some x := ⟨L[i]'(by rw [HM.out]; exact hlt), by simp⟩
      obtain ⟨b, o, rfl, ka, kc, d0, d1, d2, d3, _⟩ := at_en (all_r12.out.below BW.out) hx
      obtain ⟨kn, hkn⟩ : ∃ kn, x.key.length = kn := ⟨_, rfl⟩
      rw [hkn] at d0
      obtain ⟨z, hz⟩ : ∃ z, decide (x.key = l1) = z := ⟨_, rfl⟩
      have hid : I64 x.id := (all_r12.out.below BW.out).ids x (List.mem_of_getElem? hx)
      have hnx := idsUp_next hx z hz
      have hku := idsUp_len l1 L i
      rw [HKL.out] at hku
      have HNX := Lib.hid hnx
      have HID := Lib.hid hid
      have HDD : Hid (∀ W', Below wr.heap.size wr W' → W'.cell? ⟨b, o + i * 2 + 1, none⟩ = some (.int .i64 x.id)) := Lib.hid (fun W' hb => by rw [hb.cell d3]; exact d1)
      have hcon := rsame_is ka a1 kc c1 kn n1 x.key l1 z hkn HN1.out hz _ d2.sl (K_r12.out.below BW.out)
      have HCON := Lib.hid hcon
      have dlt : b < wr.heap.size := d3
      clear hcon hnx hid hz hkn hx d2
      go_wp2_with fail
      refine HCON.out.mono ?_
      rintro e w1' ⟨rfl, hb1'⟩
      have d1' := HDD.out w1' hb1'
      have dlt' : b < w1'.heap.size := Nat.lt_of_lt_of_le dlt hb1'.size
      have BW1 := Lib.hid (below_tr BW.out hb1')
      have HROW1 := Lib.hid (HROW.out.below hb1')
      have HWW := Lib.hid hb1'
      clear d0 d1 d3 dlt hb1' HCON
      cases z with
      | false =>
        have HK2 : Hid ((idsUp l1 L (i + 1)).length = k) := Lib.hid (by rw [HNX.out]; simp; exact HKL.out)
        have HR2 : Hid (RowS 1 w1' ar k cr ((idsUp l1 L (i + 1)).map (Value.int .i64))) := Lib.hid (by rw [HNX.out]; simpa using HROW1.out)
        go_wp2_with fail
        go_roundg (m - (i + 1))
        case measure => omega
        case rel => exact ⟨i + 1, k, ar, cr, by go_num, rfl, by omega, Nat.le_refl _, HK2, HR2, HNEW, BW1⟩
      | true =>
        obtain ⟨ii, EI⟩ := elI
        have hal := Below.allocs w1' (.cells #[.int .i64 x.id] 3)
        have lv := Lit.new w1' [.int .i64 x.id] 3 (by intro v hv; simp at hv; subst hv; rfl)
        have hsrc : Src Try.prog 1 41 (.slice (some ⟨w1'.heap.size, 0, none⟩) 1 1) 1 [.int .i64 x.id] (w1'.alloc (.cells #[.int .i64 x.id] 3)) := Src.ofSlice _ EI.ut ⟨w1'.heap.size, 0, none⟩ 1 1 _ (by simp) lv.at'.add lv.one
        obtain ⟨a', c', W5', hrun, har, hasub, hat⟩ := row_app EI (HROW1.out.below hal) _ 1 _ hsrc (by omega)
        have hsz := BW1.out.size
        have hb5 : Below w9.heap.size w9 W5' := (BW1.out.trans (hal.mono hsz)).trans ((hat.touch (G := fun b => w9.heap.size ≤ b) fun b q _ hf => HNEW.out b q hf).below (fun _ h => h) (Nat.le_trans hsz hal.size))
        have HB5 := Lib.hid hb5
        have HRUN := Lib.hid (hrun 41)
        have HK2 : Hid ((idsUp l1 L (i + 1)).length = k + 1) := Lib.hid (by rw [HNX.out, List.length_append, HKL.out]; rfl)
        have HR2 : Hid (RowS 1 W5' a' (k + 1) c' ((idsUp l1 L (i + 1)).map (Value.int .i64))) := Lib.hid (by rw [HNX.out, List.map_append]; exact har)
        have HN2 : Hid (∀ b q, SlF 1 a' c' b q → w9.heap.size ≤ b) := Lib.hid (fun b q hf => by
          rcases hasub b q hf with h1 | h1
          · exact HNEW.out b q h1
          · unfold Fr at h1
            have := hal.size
            omega)
        clear hal lv hsrc hrun har hasub hat hsz hb5 EI
        go_wp2_with (at_builtin; refine append_stepW rfl _ _ 41 rfl _ _ _ _ rfl rfl HRUN.out ?_)
        go_roundg (m - (i + 1))
        case measure => omega
        case rel => exact ⟨i + 1, k + 1, a', c', by go_num, rfl, by omega, Nat.le_refl _, HK2, HR2, HN2, HB5⟩
    · have hltz : ¬ (i : Int) < (m : Int) := by omega
      obtain rfl : i = m := by omega
      have hall : idsUp l1 L i = ids := by rw [idsUp_all HM.out]; exact HIDS.out
      have hkm : k = mi := by rw [← HKL.out, hall]; exact HMI.out
      subst hkm
      have HSI : Hid (SlI wr ar cr ids) := Lib.hid (by
        have h1 := HROW.out
        rw [hall] at h1
        refine h1.slI fun y hy => ?_
        rw [← HIDS.out] at hy
        unfold idsOf at hy
        obtain ⟨e, he, rfl⟩ := List.mem_map.1 hy
        exact (all_r12.out.below BW.out).ids e (List.mem_filter.1 he).1)
      clear hall HROW HNEW HKL
      have hcon := own_find (t_r12.out.below BW.out) a1 c1 n1 l1 ids k HN1.out (by omega) (by rw [HM.out]; omega) (K_r12.out.below BW.out) HIDS.out HMI.out
      unfold nodeV at hcon
      go_wp2_with fail
      refine (show Calls Try.prog _ _ _ _ from hcon).mono ?_
      rintro e w10 ⟨a8, c8, rfl, hb10, hs⟩
      have si_214 := Lib.hid (HSI.out.below hb10)
      have B214 := Lib.hid (below_tr BW.out hb10)
      clear HSI BW
      clear hcon hb10
      have ids_n10 := Lib.hid hs
      clear hs
      have hcon := ints_is a8 ar c8 cr k k ids ids true HMI.out HMI.out (by simp) _ ids_n10.out si_214.out
      go_wp2_with fail
      refine (show Calls Try.prog _ _ _ _ from hcon).mono ?_
      rintro e w11 ⟨rfl, hb11⟩
      have si_215 := Lib.hid (si_214.out.below hb11)
      have ids_215 := Lib.hid (ids_n10.out.below hb11)
      have B215 := Lib.hid (below_tr B214.out hb11)
      clear si_214 ids_n10 B214
      clear hcon hb11
      go_wp2_with fail
      go_ret
      exact ⟨rfl, (below_tr HB12.out B215.out)⟩

theorem parts_law (T : TreeSpec) (a0 : Option Addr) (c0 n0 : Nat) (l0 : List Stp) (a1 : Option Addr) (c1 n1 : Nat) (l1 : List Val) (hn0 : l0.length = n0) (hn1 : l1.length = n1) (w : World) (hs0 : SlSt w a0 c0 l0) (hs1 : SlL w a1 c1 l1) :
    Calls Try.prog 4 #[.slice a0 n0 c0, .slice a1 n1 c1] w fun e w' => e = .returned (.bool true) ∧ Below w.heap.size w w' := by
  cases hz : largeS l0 with
  | true => exact parts_large T a0 c0 n0 l0 a1 c1 n1 l1 hn0 hn1 w hs0 hs1 hz
  | false =>
    by_cases h0 : n1 = 0
    · exact parts_none T a0 c0 n0 l0 a1 c1 n1 l1 hn0 hn1 w hs0 hs1 hz h0
    · by_cases hr5 : 5000 < sizA l1 4
      · exact parts_wide T a0 c0 n0 l0 a1 c1 n1 l1 hn0 hn1 w hs0 hs1 hz h0 _ rfl hr5
      · exact parts_main T a0 c0 n0 l0 a1 c1 n1 l1 hn0 hn1 w hs0 hs1 hz h0 _ rfl hr5

end Go.Proofs.Ytfikaccgpjiedaa

/-
  The law BtreeCopies, walked.
-/
namespace Go.Proofs.Ytfikaccgpjiedaa
open Go.RowKit Go.Lib

theorem own_copy {T : TreeSpec} {w w0 W : World} {g : Nat} {L : List Ent} {F : Nat → Prop} (h : Own1 T w g L F W) (hb : Below w0.heap.size w0 W) (hL : L.length ≤ 2000) :
    Calls Try.prog 24 #[nodeV g] W fun e w' => ∃ g' F', e = .returned (nodeV g') ∧ Below W.heap.size W w' ∧ Own1 T w0 g' L F' w' := by
  refine (T.copy_is W g L F hL h.is).mono ?_
  rintro e w' ⟨g', F', rfl, h1, h2, h3⟩
  exact ⟨g', F', rfl, h3, h1, fun k hk => Nat.le_trans hb.size (h2 k hk)⟩

theorem length_delE (x : Ent) (l : List Ent) : (delS x l).length ≤ l.length := List.length_filter_le _ _

theorem kind_mod {k : Int} (h0 : 0 ≤ k) : k.tmod 2 = 0 ∨ k.tmod 2 = 1 := by
  rw [Int.tmod_eq_emod_of_nonneg h0]
  omega

theorem del_first {L : List Ent} {i : Nat} {x : Ent} (hs : Srt ltE L) (hx : L[i]? = some x) : delS x (L.drop i) = L.drop (i + 1) ∧ x ∈ L.drop i := by
  have h1 := (List.getElem?_eq_some_iff.1 hx).1
  have h2 := (List.getElem?_eq_some_iff.1 hx).2
  have e : L.drop i = x :: L.drop (i + 1) := by rw [List.drop_eq_getElem_cons h1, h2]
  have hs2 : Srt ltE ([] ++ x :: L.drop (i + 1)) := by
    rw [List.nil_append, ← e]
    exact List.Pairwise.sublist (List.drop_sublist i L) hs
  refine ⟨?_, by rw [e]; exact List.mem_cons_self ..⟩
  rw [e]
  exact delS_at sloE hs2

set_option maxRecDepth 100000 in
set_option maxHeartbeats 4000000 in
theorem copies_large (T : TreeSpec) (a0 : Option Addr) (c0 n0 : Nat) (l0 : List Stp) (a1 : Option Addr) (c1 n1 : Nat) (l1 : List Stp) (hn0 : l0.length = n0) (hn1 : l1.length = n1) (w : World) (hs0 : SlSt w a0 c0 l0) (hs1 : SlSt w a1 c1 l1) (hz0 : largeS l0 = true) :
    Calls Try.prog 6 #[.slice a0 n0 c0, .slice a1 n1 c1] w fun e w' => e = .returned (.bool true) ∧ Below w.heap.size w w' := by
  have B1 : Hid (Below w.heap.size w w) := Lib.hid (Below.refl _ _)
  have HS0 := Lib.hid hs0
  have HS1 := Lib.hid hs1
  have HN0 := Lib.hid hn0
  have HN1 := Lib.hid hn1
  have HZ0 := Lib.hid hz0
  clear hs0 hs1 hn0 hn1 hz0
  go_enter Try.func6, Try.ntmps6
  have hcon := works_is T w
  go_wp2_with fail
  refine (show Calls Try.prog _ _ _ _ from hcon).mono ?_
  rintro e w1 ⟨rfl, hb1⟩
  have B2 := Lib.hid (below_tr B1.out hb1)
  clear B1
  clear hcon hb1
  have hcon := large_is a0 c0 n0 l0 true HN0.out HZ0.out _ (HS0.out.below B2.out)
  go_wp2_with fail
  refine (show Calls Try.prog _ _ _ _ from hcon).mono ?_
  rintro e w2 ⟨rfl, hb2⟩
  have B3 := Lib.hid (below_tr B2.out hb2)
  clear B2
  clear hcon hb2
  have hcon := works_is T w2
  go_wp2_with fail
  refine (show Calls Try.prog _ _ _ _ from hcon).mono ?_
  rintro e w3 ⟨rfl, hb3⟩
  have B4 := Lib.hid (below_tr B3.out hb3)
  clear B3
  clear hcon hb3
  go_wp2_with fail
  go_ret
  exact ⟨rfl, B4.out⟩

set_option maxRecDepth 100000 in
set_option maxHeartbeats 4000000 in
theorem copies_wide (T : TreeSpec) (a0 : Option Addr) (c0 n0 : Nat) (l0 : List Stp) (a1 : Option Addr) (c1 n1 : Nat) (l1 : List Stp) (hn0 : l0.length = n0) (hn1 : l1.length = n1) (w : World) (hs0 : SlSt w a0 c0 l0) (hs1 : SlSt w a1 c1 l1) (hz0 : largeS l0 = false) (hz1 : largeS l1 = true) :
    Calls Try.prog 6 #[.slice a0 n0 c0, .slice a1 n1 c1] w fun e w' => e = .returned (.bool true) ∧ Below w.heap.size w w' := by
  have B1 : Hid (Below w.heap.size w w) := Lib.hid (Below.refl _ _)
  have HS0 := Lib.hid hs0
  have HS1 := Lib.hid hs1
  have HN0 := Lib.hid hn0
  have HN1 := Lib.hid hn1
  have HZ0 := Lib.hid hz0
  have HZ1 := Lib.hid hz1
  clear hs0 hs1 hn0 hn1 hz0 hz1
  go_enter Try.func6, Try.ntmps6
  have hcon := works_is T w
  go_wp2_with fail
  refine (show Calls Try.prog _ _ _ _ from hcon).mono ?_
  rintro e w1 ⟨rfl, hb1⟩
  have B2 := Lib.hid (below_tr B1.out hb1)
  clear B1
  clear hcon hb1
  have hcon := large_is a0 c0 n0 l0 false HN0.out HZ0.out _ (HS0.out.below B2.out)
  go_wp2_with fail
  refine (show Calls Try.prog _ _ _ _ from hcon).mono ?_
  rintro e w2 ⟨rfl, hb2⟩
  have B3 := Lib.hid (below_tr B2.out hb2)
  clear B2
  clear hcon hb2
  have hcon := large_is a1 c1 n1 l1 true HN1.out HZ1.out _ (HS1.out.below B3.out)
  go_wp2_with fail
  refine (show Calls Try.prog _ _ _ _ from hcon).mono ?_
  rintro e w3 ⟨rfl, hb3⟩
  have B4 := Lib.hid (below_tr B3.out hb3)
  clear B3
  clear hcon hb3
  have hcon := works_is T w3
  go_wp2_with fail
  refine (show Calls Try.prog _ _ _ _ from hcon).mono ?_
  rintro e w4 ⟨rfl, hb4⟩
  have B5 := Lib.hid (below_tr B4.out hb4)
  clear B4
  clear hcon hb4
  go_wp2_with fail
  go_ret
  exact ⟨rfl, B5.out⟩

set_option maxRecDepth 100000 in
set_option maxHeartbeats 4000000 in
theorem copies_main (T : TreeSpec) (a0 : Option Addr) (c0 n0 : Nat) (l0 : List Stp) (a1 : Option Addr) (c1 n1 : Nat) (l1 : List Stp) (hn0 : l0.length = n0) (hn1 : l1.length = n1) (w : World) (hs0 : SlSt w a0 c0 l0) (hs1 : SlSt w a1 c1 l1) (hz0 : largeS l0 = false) (hz1 : largeS l1 = false) :
    Calls Try.prog 6 #[.slice a0 n0 c0, .slice a1 n1 c1] w fun e w' => e = .returned (.bool true) ∧ Below w.heap.size w w' := by
  obtain ⟨L, hL⟩ : ∃ L, allS ltE (l0.map Stp.en) = L := ⟨_, rfl⟩
  obtain ⟨m, hm⟩ : ∃ m, L.length = m := ⟨_, rfl⟩
  have hL8 : m ≤ 800 := by
    have h1 := length_allS (l0.map Stp.en)
    have h2 := (small_steps hz0).1
    rw [hL, List.length_map] at h1
    omega
  have hsm := small_steps hz1
  have hn18 : n1 ≤ 800 := by rw [← hn1]; exact hsm.1
  have B1 : Hid (Below w.heap.size w w) := Lib.hid (Below.refl _ _)
  have HS0 := Lib.hid hs0
  have HS1 := Lib.hid hs1
  have HN0 := Lib.hid hn0
  have HN1 := Lib.hid hn1
  have HZ0 := Lib.hid hz0
  have HZ1 := Lib.hid hz1
  have HL := Lib.hid hL
  have HM := Lib.hid hm
  have HSM := Lib.hid hsm
  clear hs0 hs1 hn0 hn1 hz0 hz1 hL hm hsm
  go_enter Try.func6, Try.ntmps6
  have hcon := works_is T w
  go_wp2_with fail
  refine (show Calls Try.prog _ _ _ _ from hcon).mono ?_
  rintro e w1 ⟨rfl, hb1⟩
  have B2 := Lib.hid (below_tr B1.out hb1)
  clear B1
  clear hcon hb1
  have hcon := large_is a0 c0 n0 l0 false HN0.out HZ0.out _ (HS0.out.below B2.out)
  go_wp2_with fail
  refine (show Calls Try.prog _ _ _ _ from hcon).mono ?_
  rintro e w2 ⟨rfl, hb2⟩
  have B3 := Lib.hid (below_tr B2.out hb2)
  clear B2
  clear hcon hb2
  have hcon := large_is a1 c1 n1 l1 false HN1.out HZ1.out _ (HS1.out.below B3.out)
  go_wp2_with fail
  refine (show Calls Try.prog _ _ _ _ from hcon).mono ?_
  rintro e w3 ⟨rfl, hb3⟩
  have B4 := Lib.hid (below_tr B3.out hb3)
  clear B3
  clear hcon hb3
  have hcon := own_many T B4.out a0 c0 n0 l0 L HN0.out HZ0.out HL.out (HS0.out.below B4.out)
  go_wp2_with fail
  refine (show Calls Try.prog _ _ _ _ from hcon).mono ?_
  rintro e w4 ⟨g, F, rfl, hb4, hO, hF⟩
  have B5 := Lib.hid (below_tr B4.out hb4)
  clear B4
  clear hcon hb4
  have t_n4 := Lib.hid hO
  clear hO
  clear hF
  unfold nodeV
  have HSRT := Lib.hid (T.srt (t_n4.out).is)
  have HFW := Lib.hid (T.lt (t_n4.out).is)
  have HWF := Lib.hid (T.wf (t_n4.out).is)
  have HFAR := Lib.hid (t_n4.out).far
  have hcon := own_walk t_n4.out none none 0 0 0 0 [] [] L m rfl rfl (by omega) (by omega) (by rw [HM.out]; omega) (SlL.nil _ none 0 (Nat.zero_le _)) (SlL.nil _ none 0 (Nat.zero_le _)) (walk_all L) HM.out
  unfold nodeV at hcon
  go_wp2_with fail
  refine (show Calls Try.prog _ _ _ _ from hcon).mono ?_
  rintro e w5 ⟨a2, c2, rfl, hb5, hs⟩
  have HRA := Lib.hid hb5.size
  have t_6 := Lib.hid (t_n4.out.below hb5)
  have B6 := Lib.hid (below_tr B5.out hb5)
  clear t_n4 B5
  clear hcon hb5
  have was_n5 := Lib.hid hs
  clear hs
  have S_r7 := Lib.hid (HS0.out.below B6.out)
  have R_r7 := Lib.hid (HS1.out.below B6.out)
  have t_r7 := Lib.hid (t_6.out)
  have was_r7 := Lib.hid (was_n5.out)
  have HB7 := B6
  clear HS0 HS1 t_6 was_n5 B6
  have B8 : Hid (Below w5.heap.size w5 w5) := Lib.hid (Below.refl _ _)
  have hcon := own_copy (t_r7.out.below B8.out) B8.out (by rw [HM.out]; omega)
  unfold nodeV at hcon
  go_wp2_with fail
  refine (show Calls Try.prog _ _ _ _ from hcon).mono ?_
  rintro e w6 ⟨g2, F0, rfl, hb6, hO⟩
  have B9 := Lib.hid (below_tr B8.out hb6)
  clear B8
  clear hcon hb6
  have c_n6 := Lib.hid hO
  clear hO
  go_wp2_with fail
  go_loopg [8] n1 (fun gg s8 wr => ∃ (i : Nat) (L2 : List Ent) (F2 : Nat → Prop), s8 = .int .i64 i ∧ i ≤ n1 ∧ n1 - i ≤ gg ∧ L2.length ≤ m + i ∧ Hid (Own1 T w5 g2 L2 F2 wr) ∧ Hid (Below w5.heap.size w5 wr))
  case atStart => exact ⟨0, L, F0, rfl, Nat.zero_le _, by omega, by have := HM.out; omega, c_n6, B9⟩
  case round =>
    obtain ⟨i, L2, F2, rfl, hin, hgg, hlen2, HC, BW⟩ := hrel
    by_cases hlt : i < n1
    · have hltz : (i : Int) < (n1 : Int) := by omega
      have z1 : ¬ n1 ≤ i := by omega
      obtain ⟨s, hs⟩ : ∃ s, l1[i]? = some s := ⟨l1[i]'(by rw [HN1.out]; exact hlt), by simp⟩
      have hargs := (R_r7.out.below BW.out)
      obtain ⟨b, o, rfl, ka, kc, ta, tc, d0, d1, d2, d3, hkey, hto, d4⟩ := at_st hargs hs
      have hmem := List.mem_of_getElem? hs
      have hwf := hargs.wf s hmem
      have hks := (HSM.out.2 s hmem).1
      obtain ⟨kn, hkn⟩ : ∃ kn, s.key.length = kn := ⟨_, rfl⟩
      rw [hkn] at d1
      have hkg : SlG (fun k => k < wr.heap.size ∧ k < w5.heap.size) wr ka kc s.key := by
        obtain ⟨b9, o9, e9, ka9, kc9, ta9, tc9, _, q1, _, _, q4, _, q6⟩ := at_st R_r7.out hs
        cases e9
        have h1 := (BW.out.cell (p := ⟨b, o + i * 4 + 1, none⟩) q6).trans q1
        rw [hkn] at h1
        rw [d1] at h1
        cases h1
        exact (q4.all.below BW.out).mono fun k h2 h3 => ⟨h2, h3⟩
      have hG : ∀ k, (k < wr.heap.size ∧ k < w5.heap.size) → ¬ F2 k := fun k hk hf => by have := HC.out.far k hf; omega
      obtain ⟨z, hz⟩ : ∃ z, decide ((⟨s.key, s.id⟩ : Ent) ∉ L2) = z := ⟨_, rfl⟩
      obtain ⟨z', hz'⟩ : ∃ z, decide ((⟨s.key, s.id⟩ : Ent) ∈ L2) = z := ⟨_, rfl⟩
      have hput := fun (W : World) (hb : Below wr.heap.size wr W) => own_put (HC.out.below hb) (Nat.le_trans BW.out.size hb.size) _ ka kc kn s.key s.id z _ hkn (by omega) (by omega) (hkg.below hb) hG hwf.2 hz rfl
      have hdel := fun (W : World) (hb : Below wr.heap.size wr W) => own_del (HC.out.below hb) (Nat.le_trans BW.out.size hb.size) _ ka kc kn s.key s.id z' _ hkn (by omega) (by omega) (hkg.below hb) hG hwf.2 hz' rfl
      have hown := fun (W : World) (hb : Below wr.heap.size wr W) => HC.out.below hb
      have HPUT := Lib.hid hput
      have HDEL := Lib.hid hdel
      have HOWN := Lib.hid hown
      have hk0 := kind_mod hwf.1.1
      have hlp := length_insE ⟨s.key, s.id⟩ L2
      have hld := length_delE ⟨s.key, s.id⟩ L2
      clear hput hdel hown hargs hmem hwf hks hkg hG hz hz' hkey hto hs HC
      rcases hk0 with hk0 | hk0
      · go_wp2_with fail
        go_still_tail 11, (by kernel_rfl)
        change wpList _ _ _ _ _ wr.drew
        have hc2 := HPUT.out wr.drew (below_drw wr)
        have HO := Lib.hid (HOWN.out wr.drew (below_drw wr))
        have BD : Hid (Below w5.heap.size w5 wr.drew) := Lib.hid (BW.out.trans ((below_drw wr).mono BW.out.size))
        clear d0 d1 d2 d3 d4 HPUT HDEL HOWN
        generalize wr.drew = W at hc2 HO BD ⊢
        unfold nodeV at hc2
        go_wp2_with fail
        refine hc2.mono ?_
        rintro e w2' ⟨rfl, F3, hu⟩
        have HC3 := Lib.hid hu.own
        have BW3 := Lib.hid (hu.bel HO.out BD.out)
        clear hc2 hu
        go_wp2_with fail
        go_roundg (n1 - (i + 1))
        case measure => omega
        case rel => exact ⟨i + 1, _, F3, by go_num, by omega, Nat.le_refl _, by omega, HC3, BW3⟩
      · have hk1 : ¬ s.kind.tmod 2 = 0 := by omega
        go_wp2_with fail
        go_still_tail 11, (by kernel_rfl)
        change wpList _ _ _ _ _ wr.drew
        have hc2 := HDEL.out wr.drew (below_drw wr)
        have HO := Lib.hid (HOWN.out wr.drew (below_drw wr))
        have BD : Hid (Below w5.heap.size w5 wr.drew) := Lib.hid (BW.out.trans ((below_drw wr).mono BW.out.size))
        clear d0 d1 d2 d3 d4 HPUT HDEL HOWN
        generalize wr.drew = W at hc2 HO BD ⊢
        unfold nodeV at hc2
        go_wp2_with fail
        refine hc2.mono ?_
        rintro e w2' ⟨rfl, F3, hu⟩
        have HC3 := Lib.hid hu.own
        have BW3 := Lib.hid (hu.bel HO.out BD.out)
        clear hc2 hu
        go_wp2_with fail
        go_roundg (n1 - (i + 1))
        case measure => omega
        case rel => exact ⟨i + 1, _, F3, by go_num, by omega, Nat.le_refl _, by omega, HC3, BW3⟩
    · have hltz : ¬ (i : Int) < (n1 : Int) := by omega
      obtain ⟨m2, hm2⟩ : ∃ m2, L2.length = m2 := ⟨_, rfl⟩
      have HM2 := Lib.hid hm2
      have hm28 : m2 ≤ 1600 := by omega
      have HSW5 := Lib.hid (Nat.le_trans HRA.out BW.out.size)
      clear hlen2 hm2
      have hcon := own_walk HC.out none none 0 0 0 0 [] [] L2 m2 rfl rfl (by omega) (by omega) (by rw [HM2.out]; omega) (SlL.nil _ none 0 (Nat.zero_le _)) (SlL.nil _ none 0 (Nat.zero_le _)) (walk_all L2) HM2.out
      unfold nodeV at hcon
      go_wp2_with fail
      refine (show Calls Try.prog _ _ _ _ from hcon).mono ?_
      rintro e w7 ⟨a4, c4, rfl, hb7, hs⟩
      have c_210 := Lib.hid (HC.out.below hb7)
      have B210 := Lib.hid (below_tr BW.out hb7)
      clear HC BW
      clear hcon hb7
      have now_n7 := Lib.hid hs
      clear hs
      have hcon := own_walk (t_r7.out.below B210.out) none none 0 0 0 0 [] [] L m rfl rfl (by omega) (by omega) (by rw [HM.out]; omega) (SlL.nil _ none 0 (Nat.zero_le _)) (SlL.nil _ none 0 (Nat.zero_le _)) (walk_all L) HM.out
      unfold nodeV at hcon
      go_wp2_with fail
      refine (show Calls Try.prog _ _ _ _ from hcon).mono ?_
      rintro e w8 ⟨a5, c5, rfl, hb8, hs⟩
      have c_211 := Lib.hid (c_210.out.below hb8)
      have now_211 := Lib.hid (now_n7.out.below hb8)
      have B211 := Lib.hid (below_tr B210.out hb8)
      clear c_210 now_n7 B210
      clear hcon hb8
      have e_n8 := Lib.hid hs
      clear hs
      have hcon := sameE_is _ _ a5 a2 c5 c2 m m L L true HM.out HM.out (by simp) _ e_n8.out (was_r7.out.below B211.out)
      go_wp2_with fail
      refine (show Calls Try.prog _ _ _ _ from hcon).mono ?_
      rintro e w9 ⟨rfl, hb9⟩
      have c_212 := Lib.hid (c_211.out.below hb9)
      have now_212 := Lib.hid (now_211.out.below hb9)
      have e_212 := Lib.hid (e_n8.out.below hb9)
      have B212 := Lib.hid (below_tr B211.out hb9)
      clear c_211 now_211 e_n8 B211
      clear hcon hb9
      clear e_212
      have hcon := own_well (t_r7.out.below B212.out) (by rw [HM.out]; omega)
      unfold nodeV at hcon
      go_wp2_with fail
      refine (show Calls Try.prog _ _ _ _ from hcon).mono ?_
      rintro e w10 ⟨rfl, hb10⟩
      have c_213 := Lib.hid (c_212.out.below hb10)
      have now_213 := Lib.hid (now_212.out.below hb10)
      have B213 := Lib.hid (below_tr B212.out hb10)
      clear c_212 now_212 B212
      clear hcon hb10
      have hcon := own_well c_213.out (by rw [HM2.out]; omega)
      unfold nodeV at hcon
      go_wp2_with fail
      refine (show Calls Try.prog _ _ _ _ from hcon).mono ?_
      rintro e w11 ⟨rfl, hb11⟩
      have c_214 := Lib.hid (c_213.out.below hb11)
      have now_214 := Lib.hid (now_213.out.below hb11)
      have B214 := Lib.hid (below_tr B213.out hb11)
      clear c_213 now_213 B213
      clear hcon hb11
      have HSW1 := Lib.hid (B214.out).size
      have S_r215 := Lib.hid (S_r7.out.below B214.out)
      have R_r215 := Lib.hid (R_r7.out.below B214.out)
      have t_r215 := Lib.hid (t_r7.out.below B214.out)
      have was_r215 := Lib.hid (was_r7.out.below B214.out)
      have c_r215 := Lib.hid (c_214.out)
      have now_r215 := Lib.hid (now_214.out)
      have HB215 := Lib.hid (below_tr HB7.out B214.out)
      clear S_r7 R_r7 t_r7 was_r7 c_214 now_214 HB7 B214
      have B216 : Hid (Below w11.heap.size w11 w11) := Lib.hid (Below.refl _ _)
      go_wp2_with fail
      have HSZ := Lib.hid (And.intro HRA.out HSW1.out)
      go_loopg [10] m (fun gg s10 wr => ∃ (i : Nat) (F3 : Nat → Prop), s10 = .int .i64 i ∧ i ≤ m ∧ m - i ≤ gg ∧ Hid (Own1 T w g (L.drop i) F3 wr) ∧ Hid (Touch F w11 wr) ∧ Hid (∀ k, F3 k → F k ∨ w11.heap.size ≤ k))
      case atStart => exact ⟨0, F, rfl, Nat.zero_le _, by omega, t_r215, Lib.hid (Touch.refl _ _), Lib.hid (fun _ h => .inl h)⟩
      case round =>
        obtain ⟨i, F3, rfl, hin, hgg, HTR, HTO, HSB⟩ := hrel
        have hfw : ∀ k, w4.heap.size ≤ k → ¬ F k := fun k hk hf => by have := HFW.out k hf; omega
        have HWS := Lib.hid (was_r215.out.stay (HTO.out.stay fun k hk => hfw k hk.1))
        have hbw : Below w.heap.size w wr := (HB215.out).trans (HTO.out.below HFAR.out (HB215.out).size)
        have HBW := Lib.hid hbw
        have HFW2 := Lib.hid hfw
        clear hbw hfw
        by_cases hlt : i < m
        · have hltz : (i : Int) < (m : Int) := by omega
          have z1 : ¬ m ≤ i := by omega
          obtain ⟨x, hx⟩ : ∃ x, L[i]? = some x := ⟨L[i]'(by rw [HM.out]; exact hlt), by simp⟩
          obtain ⟨b, o, rfl, ka, kc, d0, d1, d2, d3, d4⟩ := at_en HWS.out hx
          obtain ⟨kn, hkn⟩ : ∃ kn, x.key.length = kn := ⟨_, rfl⟩
          rw [hkn] at d0
          have hxm := List.mem_of_getElem? hx
          have hk75 : kn ≤ 7500 := by
            have h1 : x ∈ allS ltE (l0.map Stp.en) := by rw [HL.out]; exact hxm
            obtain ⟨s, hs, rfl⟩ := List.mem_map.1 ((mem_allS sloE).1 h1)
            have := ((small_steps HZ0.out).2 s hs).1
            rw [← hkn]
            exact this
          obtain ⟨hdel1, hdel2⟩ := del_first HSRT.out hx
          have hdel := fun (W : World) (hb : Below wr.heap.size wr W) => own_del (HTR.out.below hb) (Nat.le_trans HBW.out.size hb.size) _ ka kc kn x.key x.id true (L.drop (i + 1)) hkn hk75 (by rw [List.length_drop, HM.out]; omega) (d2.below hb) (fun k hk hf => by
            rcases HSB.out k hf with h1 | h1
            · exact HFW2.out k hk.1 h1
            · have := HSW1.out; omega) (HWF.out x hxm).1 (decide_eq_true hdel2) hdel1
          have HDEL := Lib.hid hdel
          have HOWN := Lib.hid (fun (W : World) (hb : Below wr.heap.size wr W) => HTR.out.below hb)
          have HTO2 := Lib.hid (fun (W : World) (hb : Below wr.heap.size wr W) => HTO.out.trans (Touch.of_below (F := F) hb) (fun _ _ h => h))
          have HBW2 := Lib.hid (fun (W : World) (hb : Below wr.heap.size wr W) => HBW.out.trans (hb.mono HBW.out.size))
          have HSZ3 := Lib.hid (Nat.le_trans HTO.out.size (Nat.le_refl wr.heap.size))
          clear hxm hdel1 hdel2 hdel hk75 hkn hx d2 HTR HTO HWS HBW
          go_wp2_with fail
          go_still_tail 11, (by kernel_rfl)
          change wpList _ _ _ _ _ wr.drew
          have hc2 := HDEL.out wr.drew (below_drw wr)
          have HO := Lib.hid (HOWN.out wr.drew (below_drw wr))
          have HT3 := Lib.hid (HTO2.out wr.drew (below_drw wr))
          have BD := Lib.hid (HBW2.out wr.drew (below_drw wr))
          have HSZ4 : Hid (w11.heap.size ≤ wr.drew.heap.size) := HSZ3
          clear d0 d1 d3 d4 HDEL HOWN HTO2 HBW2
          generalize wr.drew = W at hc2 HO HT3 BD HSZ4 ⊢
          unfold nodeV at hc2
          go_wp2_with fail
          refine hc2.mono ?_
          rintro e w2' ⟨rfl, F4, hu⟩
          have HC3 := Lib.hid hu.own
          have HT4 : Hid (Touch F w11 w2') := Lib.hid (HT3.out.trans hu.touch (fun k hk hf => (HSB.out k hf).elim id (fun h => by omega)))
          have HS4 : Hid (∀ k, F4 k → F k ∨ w11.heap.size ≤ k) := Lib.hid (fun k hf => (hu.sub k hf).elim (HSB.out k) (fun h => .inr (Nat.le_trans HSZ4.out h)))
          clear hc2 hu
          go_wp2_with fail
          go_roundg (m - (i + 1))
          case measure => omega
          case rel => exact ⟨i + 1, F4, by go_num, by omega, Nat.le_refl _, HC3, HT4, HS4⟩
        · have hltz : ¬ (i : Int) < (m : Int) := by omega
          obtain rfl : i = m := by omega
          have HEND : Hid (Own1 T w g [] F3 wr) := Lib.hid (by have := HTR.out; rwa [List.drop_eq_nil_of_le (by rw [HM.out]; exact Nat.le_refl _)] at this)
          have HCW := Lib.hid (c_r215.out.stay (HTO.out.stay fun k hk => HFW2.out k (Nat.le_trans HSZ.out.1 (c_r215.out.far k hk))))
          have HNW := Lib.hid (now_r215.out.stay (HTO.out.stay fun k hk => HFW2.out k (Nat.le_trans HSW5.out hk.1)))
          clear HTR HTO HSB HWS
          have hcon := own_len HEND.out 0 (by simp) rfl
          unfold nodeV at hcon
          go_wp2_with fail
          refine (show Calls Try.prog _ _ _ _ from hcon).mono ?_
          rintro e w12 ⟨rfl, hb12⟩
          have t_317 := Lib.hid (HEND.out.below hb12)
          have c_317 := Lib.hid (HCW.out.below hb12)
          have now_317 := Lib.hid (HNW.out.below hb12)
          have B317 := Lib.hid (below_tr HBW.out hb12)
          clear HEND HCW HNW HBW
          clear hcon hb12
          have hcon := own_walk c_317.out none none 0 0 0 0 [] [] L2 m2 rfl rfl (by omega) (by omega) (by rw [HM2.out]; omega) (SlL.nil _ none 0 (Nat.zero_le _)) (SlL.nil _ none 0 (Nat.zero_le _)) (walk_all L2) HM2.out
          unfold nodeV at hcon
          go_wp2_with fail
          refine (show Calls Try.prog _ _ _ _ from hcon).mono ?_
          rintro e w13 ⟨a6, c6, rfl, hb13, hs⟩
          have t_318 := Lib.hid (t_317.out.below hb13)
          have c_318 := Lib.hid (c_317.out.below hb13)
          have now_318 := Lib.hid (now_317.out.below hb13)
          have B318 := Lib.hid (below_tr B317.out hb13)
          clear t_317 c_317 now_317 B317
          clear hcon hb13
          have e_n13 := Lib.hid hs
          clear hs
          have hcon := sameE_is _ _ a6 a4 c6 c4 m2 m2 L2 L2 true HM2.out HM2.out (by simp) _ e_n13.out now_318.out
          go_wp2_with fail
          refine (show Calls Try.prog _ _ _ _ from hcon).mono ?_
          rintro e w14 ⟨rfl, hb14⟩
          have t_319 := Lib.hid (t_318.out.below hb14)
          have c_319 := Lib.hid (c_318.out.below hb14)
          have now_319 := Lib.hid (now_318.out.below hb14)
          have e_319 := Lib.hid (e_n13.out.below hb14)
          have B319 := Lib.hid (below_tr B318.out hb14)
          clear t_318 c_318 now_318 e_n13 B318
          clear hcon hb14
          go_wp2_with fail
          go_ret
          exact ⟨rfl, B319.out⟩

theorem copies_law (T : TreeSpec) (a0 : Option Addr) (c0 n0 : Nat) (l0 : List Stp) (a1 : Option Addr) (c1 n1 : Nat) (l1 : List Stp) (hn0 : l0.length = n0) (hn1 : l1.length = n1) (w : World) (hs0 : SlSt w a0 c0 l0) (hs1 : SlSt w a1 c1 l1) :
    Calls Try.prog 6 #[.slice a0 n0 c0, .slice a1 n1 c1] w fun e w' => e = .returned (.bool true) ∧ Below w.heap.size w w' := by
  cases hz0 : largeS l0 with
  | true => exact copies_large T a0 c0 n0 l0 a1 c1 n1 l1 hn0 hn1 w hs0 hs1 hz0
  | false =>
    cases hz1 : largeS l1 with
    | true => exact copies_wide T a0 c0 n0 l0 a1 c1 n1 l1 hn0 hn1 w hs0 hs1 hz0 hz1
    | false => exact copies_main T a0 c0 n0 l0 a1 c1 n1 l1 hn0 hn1 w hs0 hs1 hz0 hz1

end Go.Proofs.Ytfikaccgpjiedaa

/-
  The law BtreeWell, walked.
-/
namespace Go.Proofs.Ytfikaccgpjiedaa
open Go.RowKit Go.Lib

/-- What the document says of a height. -/
theorem refh_is {n k : Nat} (hn : n ≤ 2000) (h : HighOk n k) (w : World) : Calls Try.prog 13 #[.int .i64 (n : Int), .int .i64 (k : Int)] w fun e w' => e = .returned (.bool true) ∧ Below w.heap.size w w' := by
  rcases h with ⟨rfl, rfl⟩ | ⟨m, rfl, h1, h2⟩
  · exact height_none w
  · exact height_more n m (by omega) h1 h2 w

theorem cmp_of {x y : Ent} (h : ltE x y = true) : cmpL x.key y.key = -1 ∨ (cmpL x.key y.key = 0 ∧ x.id < y.id) := by
  unfold ltE at h
  have h1 := of_decide_eq_true h
  unfold cmpE lex at h1
  split at h1
  · exact .inl h1
  · next hz =>
    refine .inr ⟨Classical.not_not.1 hz, ?_⟩
    unfold cmpI at h1
    split at h1
    · assumption
    · split at h1 <;> omega

set_option maxRecDepth 100000 in
set_option maxHeartbeats 4000000 in
theorem well_large (T : TreeSpec) (a0 : Option Addr) (c0 n0 : Nat) (l0 : List Stp) (hn0 : l0.length = n0) (w : World) (hs0 : SlSt w a0 c0 l0) (hz0 : largeS l0 = true) :
    Calls Try.prog 3 #[.slice a0 n0 c0] w fun e w' => e = .returned (.bool true) ∧ Below w.heap.size w w' := by
  have B1 : Hid (Below w.heap.size w w) := Lib.hid (Below.refl _ _)
  have HS0 := Lib.hid hs0
  have HN0 := Lib.hid hn0
  have HZ0 := Lib.hid hz0
  clear hs0 hn0 hz0
  go_enter Try.func3, Try.ntmps3
  have hcon := works_is T w
  go_wp2_with fail
  refine (show Calls Try.prog _ _ _ _ from hcon).mono ?_
  rintro e w1 ⟨rfl, hb1⟩
  have B2 := Lib.hid (below_tr B1.out hb1)
  clear B1
  clear hcon hb1
  have hcon := large_is a0 c0 n0 l0 true HN0.out HZ0.out _ (HS0.out.below B2.out)
  go_wp2_with fail
  refine (show Calls Try.prog _ _ _ _ from hcon).mono ?_
  rintro e w2 ⟨rfl, hb2⟩
  have B3 := Lib.hid (below_tr B2.out hb2)
  clear B2
  clear hcon hb2
  have hcon := works_is T w2
  go_wp2_with fail
  refine (show Calls Try.prog _ _ _ _ from hcon).mono ?_
  rintro e w3 ⟨rfl, hb3⟩
  have B4 := Lib.hid (below_tr B3.out hb3)
  clear B3
  clear hcon hb3
  go_wp2_with fail
  go_ret
  exact ⟨rfl, B4.out⟩

set_option maxRecDepth 100000 in
set_option maxHeartbeats 4000000 in
theorem well_main (T : TreeSpec) (a0 : Option Addr) (c0 n0 : Nat) (l0 : List Stp) (hn0 : l0.length = n0) (w : World) (hs0 : SlSt w a0 c0 l0) (hz0 : largeS l0 = false) :
    Calls Try.prog 3 #[.slice a0 n0 c0] w fun e w' => e = .returned (.bool true) ∧ Below w.heap.size w w' := by
  have hsm := small_steps hz0
  have hn18 : n0 ≤ 800 := by rw [← hn0]; exact hsm.1
  have mixed : Try.prog.follows Departure.mixedOrders = true := by kernel_rfl
  have B1 : Hid (Below w.heap.size w w) := Lib.hid (Below.refl _ _)
  have HS0 := Lib.hid hs0
  have HN0 := Lib.hid hn0
  have HZ0 := Lib.hid hz0
  have HSM := Lib.hid hsm
  clear hs0 hn0 hz0 hsm
  go_enter Try.func3, Try.ntmps3
  have hcon := works_is T w
  go_wp2_with fail
  refine (show Calls Try.prog _ _ _ _ from hcon).mono ?_
  rintro e w1 ⟨rfl, hb1⟩
  have B2 := Lib.hid (below_tr B1.out hb1)
  clear B1
  clear hcon hb1
  have hcon := large_is a0 c0 n0 l0 false HN0.out HZ0.out _ (HS0.out.below B2.out)
  go_wp2_with fail
  refine (show Calls Try.prog _ _ _ _ from hcon).mono ?_
  rintro e w2 ⟨rfl, hb2⟩
  have B3 := Lib.hid (below_tr B2.out hb2)
  clear B2
  clear hcon hb2
  have hcon := own_new T w _ B3.out
  go_wp2_with fail
  refine (show Calls Try.prog _ _ _ _ from hcon).mono ?_
  rintro e w3 ⟨g, F0, rfl, hb3, hO, hF⟩
  have B4 := Lib.hid (below_tr B3.out hb3)
  clear B3
  clear hcon hb3
  have t_n3 := Lib.hid hO
  clear hO
  clear hF
  unfold nodeV
  go_wp2_with fail
  go_loopg [4] n0 (fun gg s4 wr => ∃ (i : Nat) (L2 : List Ent) (F2 : Nat → Prop), s4 = .int .i64 i ∧ i ≤ n0 ∧ n0 - i ≤ gg ∧ L2.length ≤ i ∧ Hid (Own1 T w g L2 F2 wr) ∧ Hid (Below w.heap.size w wr))
  case atStart => exact ⟨0, [], F0, rfl, Nat.zero_le _, by omega, Nat.le_refl _, t_n3, B4⟩
  case round =>
    obtain ⟨i, L2, F2, rfl, hin, hgg, hlen2, HC, BW⟩ := hrel
    by_cases hlt : i < n0
    · have hltz : (i : Int) < (n0 : Int) := by omega
      have z1 : ¬ n0 ≤ i := by omega
      obtain ⟨s, hs⟩ : ∃ s, l0[i]? = some s := ⟨l0[i]'(by rw [HN0.out]; exact hlt), by simp⟩
      have hargs := HS0.out.below BW.out
      obtain ⟨b, o, rfl, ka, kc, ta, tc, d0, d1, d2, d3, hkey, hto, d4⟩ := at_st hargs hs
      have hmem := List.mem_of_getElem? hs
      have hwf := hargs.wf s hmem
      have hks := (HSM.out.2 s hmem).1
      obtain ⟨kn, hkn⟩ : ∃ kn, s.key.length = kn := ⟨_, rfl⟩
      rw [hkn] at d1
      have hkg : SlG (fun k => k < wr.heap.size ∧ k < w.heap.size) wr ka kc s.key := by
        obtain ⟨b9, o9, e9, ka9, kc9, ta9, tc9, _, q1, _, _, q4, _, q6⟩ := at_st HS0.out hs
        cases e9
        have h1 := (BW.out.cell (p := ⟨b, o + i * 4 + 1, none⟩) q6).trans q1
        rw [hkn] at h1
        rw [d1] at h1
        cases h1
        exact (q4.all.below BW.out).mono fun k h2 h3 => ⟨h2, h3⟩
      have hG : ∀ k, (k < wr.heap.size ∧ k < w.heap.size) → ¬ F2 k := fun k hk hf => by have := HC.out.far k hf; omega
      obtain ⟨z, hz⟩ : ∃ z, decide ((⟨s.key, s.id⟩ : Ent) ∉ L2) = z := ⟨_, rfl⟩
      obtain ⟨z', hz'⟩ : ∃ z, decide ((⟨s.key, s.id⟩ : Ent) ∈ L2) = z := ⟨_, rfl⟩
      have HPUT := Lib.hid (fun (W : World) (hb : Below wr.heap.size wr W) => own_put (HC.out.below hb) (Nat.le_trans BW.out.size hb.size) _ ka kc kn s.key s.id z _ hkn (by omega) (by omega) (hkg.below hb) hG hwf.2 hz rfl)
      have HDEL := Lib.hid (fun (W : World) (hb : Below wr.heap.size wr W) => own_del (HC.out.below hb) (Nat.le_trans BW.out.size hb.size) _ ka kc kn s.key s.id z' _ hkn (by omega) (by omega) (hkg.below hb) hG hwf.2 hz' rfl)
      have HOWN := Lib.hid (fun (W : World) (hb : Below wr.heap.size wr W) => HC.out.below hb)
      have hk0 := kind_mod hwf.1.1
      have hlp := length_insE ⟨s.key, s.id⟩ L2
      have hld := length_delE ⟨s.key, s.id⟩ L2
      clear hargs hmem hwf hks hkg hG hz hz' hkey hto hs HC
      rcases hk0 with hk0 | hk0
      · have hl3 := hlp
        clear hlp hld
        go_wp2_with fail
        go_still_tail 11, (by kernel_rfl)
        change wpList _ _ _ _ _ wr.drew
        have hc2 := HPUT.out wr.drew (below_drw wr)
        have HO := Lib.hid (HOWN.out wr.drew (below_drw wr))
        have BD : Hid (Below w.heap.size w wr.drew) := Lib.hid (BW.out.trans ((below_drw wr).mono BW.out.size))
        clear d0 d1 d2 d3 d4 HPUT HDEL HOWN
        generalize wr.drew = W at hc2 HO BD ⊢
        unfold nodeV at hc2
        go_wp2_with fail
        refine hc2.mono ?_
        rintro e w2' ⟨rfl, F3, hu⟩
        have HC3 := Lib.hid hu.own
        have BW3 := Lib.hid (hu.bel HO.out BD.out)
        obtain ⟨L3, hL3⟩ : ∃ L3, insS ltE ⟨s.key, s.id⟩ L2 = L3 := ⟨_, rfl⟩
        obtain ⟨m3, hm3⟩ : ∃ m3, L3.length = m3 := ⟨_, rfl⟩
        rw [hL3] at HC3 hl3
        rw [hm3] at hl3
        have HM3 := Lib.hid hm3
        clear hc2 hu hL3 hm3
        have hcon := own_well HC3.out (by rw [HM3.out]; omega)
        unfold nodeV at hcon
        go_wp2_with fail
        refine (show Calls Try.prog _ _ _ _ from hcon).mono ?_
        rintro e w4 ⟨rfl, hb4⟩
        have t_305 := Lib.hid (HC3.out.below hb4)
        have B305 := Lib.hid (below_tr BW3.out hb4)
        clear HC3 BW3
        clear hcon hb4
        have hcon := own_len t_305.out m3 (by rw [HM3.out]; omega) HM3.out
        unfold nodeV at hcon
        go_wp2_with fail
        refine (show Calls Try.prog _ _ _ _ from hcon).mono ?_
        rintro e w5 ⟨rfl, hb5⟩
        have t_306 := Lib.hid (t_305.out.below hb5)
        have B306 := Lib.hid (below_tr B305.out hb5)
        clear t_305 B305
        clear hcon hb5
        have hcon := own_height t_306.out (by rw [HM3.out]; omega)
        unfold nodeV at hcon
        go_wp2_with fail
        refine (show Calls Try.prog _ _ _ _ from hcon).mono ?_
        rintro e w6 ⟨k, rfl, hb6, hh⟩
        have t_307 := Lib.hid (t_306.out.below hb6)
        have B307 := Lib.hid (below_tr B306.out hb6)
        clear t_306 B306
        clear hcon hb6
        rw [HM3.out] at hh
        have HH := Lib.hid hh
        clear hh
        have hcon := refh_is (by omega) HH.out w6
        go_wp2_with fail
        refine (show Calls Try.prog _ _ _ _ from hcon).mono ?_
        rintro e w7 ⟨rfl, hb7⟩
        have t_308 := Lib.hid (t_307.out.below hb7)
        have B308 := Lib.hid (below_tr B307.out hb7)
        clear t_307 B307
        clear hcon hb7
        go_wp2_with fail
        go_roundg (n0 - (i + 1))
        case measure => omega
        case rel => exact ⟨i + 1, L3, F3, by go_num, by omega, Nat.le_refl _, by rw [HM3.out]; omega, t_308, B308⟩
      · have hk1 : ¬ s.kind.tmod 2 = 0 := by omega
        have hl3 := hld
        clear hlp hld
        go_wp2_with fail
        go_still_tail 11, (by kernel_rfl)
        change wpList _ _ _ _ _ wr.drew
        have hc2 := HDEL.out wr.drew (below_drw wr)
        have HO := Lib.hid (HOWN.out wr.drew (below_drw wr))
        have BD : Hid (Below w.heap.size w wr.drew) := Lib.hid (BW.out.trans ((below_drw wr).mono BW.out.size))
        clear d0 d1 d2 d3 d4 HPUT HDEL HOWN
        generalize wr.drew = W at hc2 HO BD ⊢
        unfold nodeV at hc2
        go_wp2_with fail
        refine hc2.mono ?_
        rintro e w2' ⟨rfl, F3, hu⟩
        have HC3 := Lib.hid hu.own
        have BW3 := Lib.hid (hu.bel HO.out BD.out)
        obtain ⟨L3, hL3⟩ : ∃ L3, delS ⟨s.key, s.id⟩ L2 = L3 := ⟨_, rfl⟩
        obtain ⟨m3, hm3⟩ : ∃ m3, L3.length = m3 := ⟨_, rfl⟩
        rw [hL3] at HC3 hl3
        rw [hm3] at hl3
        have HM3 := Lib.hid hm3
        clear hc2 hu hL3 hm3
        have hcon := own_well HC3.out (by rw [HM3.out]; omega)
        unfold nodeV at hcon
        go_wp2_with fail
        refine (show Calls Try.prog _ _ _ _ from hcon).mono ?_
        rintro e w4 ⟨rfl, hb4⟩
        have t_305 := Lib.hid (HC3.out.below hb4)
        have B305 := Lib.hid (below_tr BW3.out hb4)
        clear HC3 BW3
        clear hcon hb4
        have hcon := own_len t_305.out m3 (by rw [HM3.out]; omega) HM3.out
        unfold nodeV at hcon
        go_wp2_with fail
        refine (show Calls Try.prog _ _ _ _ from hcon).mono ?_
        rintro e w5 ⟨rfl, hb5⟩
        have t_306 := Lib.hid (t_305.out.below hb5)
        have B306 := Lib.hid (below_tr B305.out hb5)
        clear t_305 B305
        clear hcon hb5
        have hcon := own_height t_306.out (by rw [HM3.out]; omega)
        unfold nodeV at hcon
        go_wp2_with fail
        refine (show Calls Try.prog _ _ _ _ from hcon).mono ?_
        rintro e w6 ⟨k, rfl, hb6, hh⟩
        have t_307 := Lib.hid (t_306.out.below hb6)
        have B307 := Lib.hid (below_tr B306.out hb6)
        clear t_306 B306
        clear hcon hb6
        rw [HM3.out] at hh
        have HH := Lib.hid hh
        clear hh
        have hcon := refh_is (by omega) HH.out w6
        go_wp2_with fail
        refine (show Calls Try.prog _ _ _ _ from hcon).mono ?_
        rintro e w7 ⟨rfl, hb7⟩
        have t_308 := Lib.hid (t_307.out.below hb7)
        have B308 := Lib.hid (below_tr B307.out hb7)
        clear t_307 B307
        clear hcon hb7
        go_wp2_with fail
        go_roundg (n0 - (i + 1))
        case measure => omega
        case rel => exact ⟨i + 1, L3, F3, by go_num, by omega, Nat.le_refl _, by rw [HM3.out]; omega, t_308, B308⟩
    · have hltz : ¬ (i : Int) < (n0 : Int) := by omega
      obtain ⟨m, hm⟩ : ∃ m, L2.length = m := ⟨_, rfl⟩
      have HM := Lib.hid hm
      have hm8 : m ≤ 800 := by omega
      clear hlen2 hm
      have HSRT := Lib.hid (T.srt HC.out.is)
      have hcon := own_walk HC.out none none 0 0 0 0 [] [] L2 m rfl rfl (by omega) (by omega) (by rw [HM.out]; omega) (SlL.nil _ none 0 (Nat.zero_le _)) (SlL.nil _ none 0 (Nat.zero_le _)) (walk_all L2) HM.out
      unfold nodeV at hcon
      go_wp2_with fail
      refine (show Calls Try.prog _ _ _ _ from hcon).mono ?_
      rintro e w4 ⟨a2, c2, rfl, hb4, hs⟩
      have t_205 := Lib.hid (HC.out.below hb4)
      have B205 := Lib.hid (below_tr BW.out hb4)
      clear HC BW
      clear hcon hb4
      have all_n4 := Lib.hid hs
      clear hs
      have t_r206 := Lib.hid (t_205.out)
      have all_r206 := Lib.hid (all_n4.out)
      have HB206 := B205
      clear t_205 all_n4 B205
      have B207 : Hid (Below w4.heap.size w4 w4) := Lib.hid (Below.refl _ _)
      go_wp2_with fail
      go_loopg [6] m (fun gg s6 wr => ∃ j : Nat, s6 = .int .i64 ((j : Int) + 1) ∧ (j + 1 ≤ m ∨ j = 0) ∧ m - j ≤ gg ∧ Hid (Below w4.heap.size w4 wr))
      case atStart => exact ⟨0, by go_num, .inr rfl, by omega, B207⟩
      case round =>
        obtain ⟨j, rfl, hjm, hgg, BQ⟩ := hrel
        by_cases hlt : j + 1 < m
        · have hltz : (j : Int) + 1 < (m : Int) := by omega
          have z1 : ¬ m ≤ j := by omega
          have z2 : ¬ m ≤ j + 1 := by omega
          have z3 : (j : Int) < (m : Int) := by omega
          have z6 : ¬ (j : Int) + 1 < 0 := by omega
          obtain ⟨x, hx⟩ : ∃ x, L2[j]? = some x := ⟨L2[j]'(by rw [HM.out]; omega), by simp⟩
          obtain ⟨y, hy⟩ : ∃ y, L2[j + 1]? = some y := ⟨L2[j + 1]'(by rw [HM.out]; exact hlt), by simp⟩
          have hxy : ltE x y = true := by
            obtain ⟨h1, e1⟩ := List.getElem?_eq_some_iff.1 hx
            obtain ⟨h2, e2⟩ := List.getElem?_eq_some_iff.1 hy
            have := List.pairwise_iff_getElem.1 HSRT.out j (j + 1) h1 h2 (by omega)
            rwa [e1, e2] at this
          obtain ⟨b, o, rfl, ka, kc, d0, d1, d2, d3, _⟩ := at_en (all_r206.out.below BQ.out) hx
          obtain ⟨b', o', e', ka', kc', e0, e1, e2, e3, _⟩ := at_en (all_r206.out.below BQ.out) hy
          cases e'
          obtain ⟨kn, hkn⟩ : ∃ kn, x.key.length = kn := ⟨_, rfl⟩
          obtain ⟨kn', hkn'⟩ : ∃ kn, y.key.length = kn := ⟨_, rfl⟩
          rw [hkn] at d0
          rw [hkn'] at e0
          obtain ⟨r, hr⟩ : ∃ r, cmpL x.key y.key = r := ⟨_, rfl⟩
          have HCMP := Lib.hid (fun (W : World) (hb : Below wr.heap.size wr W) => rcomp_is ka ka' kc kc' kn kn' x.key y.key r hkn hkn' hr W ((d2.sl).below hb) ((e2.sl).below hb))
          have hxyr : r = -1 ∨ (r = 0 ∧ x.id < y.id) := by rw [← hr]; exact cmp_of hxy
          have HXY0 := Lib.hid (fun (W : World) (hb : Below wr.heap.size wr W) => (And.intro ((hb.cell (p := ⟨b, o + j * 2 + 1, none⟩) d3).trans d1) ((hb.cell (p := ⟨b, o + (j + 1) * 2 + 1, none⟩) d3).trans e1) : W.cell? ⟨b, o + j * 2 + 1, none⟩ = some (.int .i64 x.id) ∧ W.cell? ⟨b, o + (j + 1) * 2 + 1, none⟩ = some (.int .i64 y.id)))
          clear hkn hkn' hr hxy d2 e2 hx hy
          have HXX := Lib.hid (fun (W : World) (hb : Below wr.heap.size wr W) => (And.intro ((hb.cell (p := ⟨b, o + j * 2, none⟩) d3).trans d0) ((hb.cell (p := ⟨b, o + (j + 1) * 2, none⟩) d3).trans e0) : W.cell? ⟨b, o + j * 2, none⟩ = some (.slice ka kn kc) ∧ W.cell? ⟨b, o + (j + 1) * 2, none⟩ = some (.slice ka' kn' kc')))
          clear d0 d1 e0 e1 d3 e3
          go_wp2_with fail
          have hdr16 := below_drw wr
          try simp only [List.append_eq, List.cons_append, List.nil_append]
          refine RX.wp_region_plan (fun w w' => Below w.heap.size w w') [.it (.slice (some ⟨b, o, none⟩) m c2), .it (.int .i64 ((j : Int) + 1)), .it (.int .i64 (j : Int)), .it (.pointer (some ⟨b, o + j * 2, none⟩)), .it (.pointer (some ⟨b, o + j * 2, none⟩)), .it (.slice ka kn kc), .it (.slice (some ⟨b, o, none⟩) m c2), .it (.int .i64 ((j : Int) + 1)), .it (.pointer (some ⟨b, o + (j + 1) * 2, none⟩)), .it (.pointer (some ⟨b, o + (j + 1) * 2, none⟩)), .it (.slice ka' kn' kc'), .it (.int .i64 r), .it (.int .i64 r)] (by kernel_rfl) (by kernel_rfl) (fun _ => Below.refl _ _) (fun _ _ _ => below_tr) ?_
          refine RX.seqP_value (fun _ => Below.refl _ _) _ (by first | rfl | simp) (fun w' hw' hctx => ?_) ?_
          · go_simp
            try first | with_reducible rfl | simp
          simp only [Act.put, List.setIfInBounds_toArray, List.set_cons_zero, List.set_cons_succ]
          refine RX.seqP_value (fun _ => Below.refl _ _) _ (by first | rfl | simp) (fun w' hw' hctx => ?_) ?_
          · go_simp
            try first | with_reducible rfl | simp
          simp only [Act.put, List.setIfInBounds_toArray, List.set_cons_zero, List.set_cons_succ]
          refine RX.seqP_value (fun _ => Below.refl _ _) _ (by first | rfl | simp) (fun w' hw' hctx => ?_) ?_
          · have hjw : IntKind.i64.wrap (j : Int) = (j : Int) := wrapI (by unfold I64; omega)
            go_simp
            try first | with_reducible rfl | simp
          simp only [Act.put, List.setIfInBounds_toArray, List.set_cons_zero, List.set_cons_succ]
          refine RX.seqP_value (fun _ => Below.refl _ _) _ (by first | rfl | simp) (fun w' hw' hctx => ?_) ?_
          · go_simp
            try first | with_reducible rfl | simp
          simp only [Act.put, List.setIfInBounds_toArray, List.set_cons_zero, List.set_cons_succ]
          refine RX.seqP_value (fun _ => Below.refl _ _) _ (by first | rfl | simp) (fun w' hw' hctx => ?_) ?_
          · go_simp
            try first | with_reducible rfl | simp
          simp only [Act.put, List.setIfInBounds_toArray, List.set_cons_zero, List.set_cons_succ]
          refine RX.seqP_value (fun _ => Below.refl _ _) _ (by first | rfl | simp) (fun w' hw' hctx => ?_) ?_
          · obtain ⟨j0, j1⟩ := HXX.out w' (below_tr hdr16 hw')
            go_simp
            try first | with_reducible rfl | simp
          simp only [Act.put, List.setIfInBounds_toArray, List.set_cons_zero, List.set_cons_succ]
          refine RX.seqP_value (fun _ => Below.refl _ _) _ (by first | rfl | simp) (fun w' hw' hctx => ?_) ?_
          · go_simp
            try first | with_reducible rfl | simp
          simp only [Act.put, List.setIfInBounds_toArray, List.set_cons_zero, List.set_cons_succ]
          refine RX.seqP_value (fun _ => Below.refl _ _) _ (by first | rfl | simp) (fun w' hw' hctx => ?_) ?_
          · go_simp
            try first | with_reducible rfl | simp
          simp only [Act.put, List.setIfInBounds_toArray, List.set_cons_zero, List.set_cons_succ]
          refine RX.seqP_value (fun _ => Below.refl _ _) _ (by first | rfl | simp) (fun w' hw' hctx => ?_) ?_
          · go_simp
            try first | with_reducible rfl | simp
          simp only [Act.put, List.setIfInBounds_toArray, List.set_cons_zero, List.set_cons_succ]
          refine RX.seqP_value (fun _ => Below.refl _ _) _ (by first | rfl | simp) (fun w' hw' hctx => ?_) ?_
          · go_simp
            try first | with_reducible rfl | simp
          simp only [Act.put, List.setIfInBounds_toArray, List.set_cons_zero, List.set_cons_succ]
          refine RX.seqP_value (fun _ => Below.refl _ _) _ (by first | rfl | simp) (fun w' hw' hctx => ?_) ?_
          · obtain ⟨j0, j1⟩ := HXX.out w' (below_tr hdr16 hw')
            go_simp
            try first | with_reducible rfl | simp
          simp only [Act.put, List.setIfInBounds_toArray, List.set_cons_zero, List.set_cons_succ]
          refine RX.seqP_call (17) #[.slice ka kn kc, .slice ka' kn' kc'] (.int .i64 r) (by first | rfl | simp) (fun w' hw' hctx => ?_) (fun w' hw' hctx => HCMP.out w' (below_tr hdr16 hw')) ?_
          · go_simp
          simp only [Act.put, List.setIfInBounds_toArray, List.set_cons_zero, List.set_cons_succ]
          refine RX.seqP_value (fun _ => Below.refl _ _) _ (by first | rfl | simp) (fun w' hw' hctx => ?_) ?_
          · go_simp
            try first | with_reducible rfl | simp
          simp only [Act.put, List.setIfInBounds_toArray, List.set_cons_zero, List.set_cons_succ]
          refine RX.seqP_nil (fun wz0 hR hctx _ => ?_)
          have hv16 := below_tr hdr16 hR
          clear hctx hR
          have BQ1 := Lib.hid (below_tr BQ.out hv16)
          have HXY := Lib.hid (fun (W : World) (hb : Below wz0.heap.size wz0 W) => HXY0.out W (below_tr hv16 hb))
          clear HCMP HXY0 HXX hv16
          rcases hxyr with rfl | ⟨rfl, hid⟩
          · go_wp2_with fail
            have hdr17 := below_drw wz0
            try simp only [List.append_eq, List.cons_append, List.nil_append]
            refine RX.wp_region_plan (fun w w' => Below w.heap.size w w') [.it (.int .i64 (-1)), .it (.bool false), .it (.bool false), .it (.int .i64 (-1)), .it (.bool false), .it (.bool false), .it undef, .it undef, .it undef, .it undef, .it undef, .it undef, .it undef, .it undef, .it undef, .it undef, .it undef, .it undef, .it (.bool false), .it (.bool false)] (by kernel_rfl) (by kernel_rfl) (fun _ => Below.refl _ _) (fun _ _ _ => below_tr) ?_
            refine RX.seqP_value (fun _ => Below.refl _ _) _ (by first | rfl | simp) (fun w' hw' hctx => ?_) ?_
            · go_simp
              try first | with_reducible rfl | simp
            simp only [Act.put, List.setIfInBounds_toArray, List.set_cons_zero, List.set_cons_succ]
            refine RX.seqP_value (fun _ => Below.refl _ _) _ (by first | rfl | simp) (fun w' hw' hctx => ?_) ?_
            · go_simp
              try first | with_reducible rfl | simp
            simp only [Act.put, List.setIfInBounds_toArray, List.set_cons_zero, List.set_cons_succ]
            refine RX.seqP_value (fun _ => Below.refl _ _) _ (by first | rfl | simp) (fun w' hw' hctx => ?_) ?_
            · go_simp
              try first | with_reducible rfl | simp
            simp only [Act.put, List.setIfInBounds_toArray, List.set_cons_zero, List.set_cons_succ]
            refine RX.seqP_value (fun _ => Below.refl _ _) _ (by first | rfl | simp) (fun w' hw' hctx => ?_) ?_
            · go_simp
              try first | with_reducible rfl | simp
            simp only [Act.put, List.setIfInBounds_toArray, List.set_cons_zero, List.set_cons_succ]
            refine RX.seqP_value (fun _ => Below.refl _ _) _ (by first | rfl | simp) (fun w' hw' hctx => ?_) ?_
            · go_simp
              try first | with_reducible rfl | simp
            simp only [Act.put, List.setIfInBounds_toArray, List.set_cons_zero, List.set_cons_succ]
            refine RX.seqP_value (fun _ => Below.refl _ _) _ (by first | rfl | simp) (fun w' hw' hctx => ?_) ?_
            · go_simp
              try first | with_reducible rfl | simp
            simp only [Act.put, List.setIfInBounds_toArray, List.set_cons_zero, List.set_cons_succ]
            refine RX.seqP_skip (by first | rfl | simp) ?_
            simp only [Act.put, List.setIfInBounds_toArray, List.set_cons_zero, List.set_cons_succ]
            refine RX.seqP_skip (by first | rfl | simp) ?_
            simp only [Act.put, List.setIfInBounds_toArray, List.set_cons_zero, List.set_cons_succ]
            refine RX.seqP_skip (by first | rfl | simp) ?_
            simp only [Act.put, List.setIfInBounds_toArray, List.set_cons_zero, List.set_cons_succ]
            refine RX.seqP_skip (by first | rfl | simp) ?_
            simp only [Act.put, List.setIfInBounds_toArray, List.set_cons_zero, List.set_cons_succ]
            refine RX.seqP_skip (by first | rfl | simp) ?_
            simp only [Act.put, List.setIfInBounds_toArray, List.set_cons_zero, List.set_cons_succ]
            refine RX.seqP_skip (by first | rfl | simp) ?_
            simp only [Act.put, List.setIfInBounds_toArray, List.set_cons_zero, List.set_cons_succ]
            refine RX.seqP_skip (by first | rfl | simp) ?_
            simp only [Act.put, List.setIfInBounds_toArray, List.set_cons_zero, List.set_cons_succ]
            refine RX.seqP_skip (by first | rfl | simp) ?_
            simp only [Act.put, List.setIfInBounds_toArray, List.set_cons_zero, List.set_cons_succ]
            refine RX.seqP_skip (by first | rfl | simp) ?_
            simp only [Act.put, List.setIfInBounds_toArray, List.set_cons_zero, List.set_cons_succ]
            refine RX.seqP_skip (by first | rfl | simp) ?_
            simp only [Act.put, List.setIfInBounds_toArray, List.set_cons_zero, List.set_cons_succ]
            refine RX.seqP_skip (by first | rfl | simp) ?_
            simp only [Act.put, List.setIfInBounds_toArray, List.set_cons_zero, List.set_cons_succ]
            refine RX.seqP_skip (by first | rfl | simp) ?_
            simp only [Act.put, List.setIfInBounds_toArray, List.set_cons_zero, List.set_cons_succ]
            refine RX.seqP_value (fun _ => Below.refl _ _) _ (by first | rfl | simp) (fun w' hw' hctx => ?_) ?_
            · go_simp
              try first | with_reducible rfl | simp
            simp only [Act.put, List.setIfInBounds_toArray, List.set_cons_zero, List.set_cons_succ]
            refine RX.seqP_value (fun _ => Below.refl _ _) _ (by first | rfl | simp) (fun w' hw' hctx => ?_) ?_
            · go_simp
              try first | with_reducible rfl | simp
            simp only [Act.put, List.setIfInBounds_toArray, List.set_cons_zero, List.set_cons_succ]
            refine RX.seqP_nil (fun wz hR hctx _ => ?_)
            have hvz := below_tr hdr17 hR
            clear hctx hR
            go_wp2_with fail
            go_roundg (m - (j + 1))
            case measure => omega
            case rel => exact ⟨j + 1, by go_num, .inl (by omega), Nat.le_refl _, Lib.hid (below_tr BQ1.out hvz)⟩
          · have HID := Lib.hid hid
            clear hid
            go_wp2_with fail
            have hdr17 := below_drw wz0
            try simp only [List.append_eq, List.cons_append, List.nil_append]
            refine RX.wp_region_plan (fun w w' => Below w.heap.size w w') [.it (.int .i64 0), .it (.bool false), .it (.bool false), .it (.int .i64 0), .it (.bool true), .it (.bool true), .it (.slice (some ⟨b, o, none⟩) m c2), .it (.int .i64 ((j : Int) + 1)), .it (.int .i64 (j : Int)), .it (.pointer (some ⟨b, o + j * 2, none⟩)), .it (.pointer (some ⟨b, o + j * 2 + 1, none⟩)), .it (.int .i64 x.id), .it (.slice (some ⟨b, o, none⟩) m c2), .it (.int .i64 ((j : Int) + 1)), .it (.pointer (some ⟨b, o + (j + 1) * 2, none⟩)), .it (.pointer (some ⟨b, o + (j + 1) * 2 + 1, none⟩)), .it (.int .i64 y.id), .it (.bool false), .it (.bool false), .it (.bool false)] (by kernel_rfl) (by kernel_rfl) (fun _ => Below.refl _ _) (fun _ _ _ => below_tr) ?_
            refine RX.seqP_value (fun _ => Below.refl _ _) _ (by first | rfl | simp) (fun w' hw' hctx => ?_) ?_
            · go_simp
              try first | with_reducible rfl | simp
            simp only [Act.put, List.setIfInBounds_toArray, List.set_cons_zero, List.set_cons_succ]
            refine RX.seqP_value (fun _ => Below.refl _ _) _ (by first | rfl | simp) (fun w' hw' hctx => ?_) ?_
            · go_simp
              try first | with_reducible rfl | simp
            simp only [Act.put, List.setIfInBounds_toArray, List.set_cons_zero, List.set_cons_succ]
            refine RX.seqP_value (fun _ => Below.refl _ _) _ (by first | rfl | simp) (fun w' hw' hctx => ?_) ?_
            · go_simp
              try first | with_reducible rfl | simp
            simp only [Act.put, List.setIfInBounds_toArray, List.set_cons_zero, List.set_cons_succ]
            refine RX.seqP_value (fun _ => Below.refl _ _) _ (by first | rfl | simp) (fun w' hw' hctx => ?_) ?_
            · go_simp
              try first | with_reducible rfl | simp
            simp only [Act.put, List.setIfInBounds_toArray, List.set_cons_zero, List.set_cons_succ]
            refine RX.seqP_value (fun _ => Below.refl _ _) _ (by first | rfl | simp) (fun w' hw' hctx => ?_) ?_
            · go_simp
              try first | with_reducible rfl | simp
            simp only [Act.put, List.setIfInBounds_toArray, List.set_cons_zero, List.set_cons_succ]
            refine RX.seqP_value (fun _ => Below.refl _ _) _ (by first | rfl | simp) (fun w' hw' hctx => ?_) ?_
            · go_simp
              try first | with_reducible rfl | simp
            simp only [Act.put, List.setIfInBounds_toArray, List.set_cons_zero, List.set_cons_succ]
            refine RX.seqP_value (fun _ => Below.refl _ _) _ (by first | rfl | simp) (fun w' hw' hctx => ?_) ?_
            · go_simp
              try first | with_reducible rfl | simp
            simp only [Act.put, List.setIfInBounds_toArray, List.set_cons_zero, List.set_cons_succ]
            refine RX.seqP_value (fun _ => Below.refl _ _) _ (by first | rfl | simp) (fun w' hw' hctx => ?_) ?_
            · go_simp
              try first | with_reducible rfl | simp
            simp only [Act.put, List.setIfInBounds_toArray, List.set_cons_zero, List.set_cons_succ]
            refine RX.seqP_value (fun _ => Below.refl _ _) _ (by first | rfl | simp) (fun w' hw' hctx => ?_) ?_
            · have hjw : IntKind.i64.wrap (j : Int) = (j : Int) := wrapI (by unfold I64; omega)
              go_simp
              try first | with_reducible rfl | simp
            simp only [Act.put, List.setIfInBounds_toArray, List.set_cons_zero, List.set_cons_succ]
            refine RX.seqP_value (fun _ => Below.refl _ _) _ (by first | rfl | simp) (fun w' hw' hctx => ?_) ?_
            · go_simp
              try first | with_reducible rfl | simp
            simp only [Act.put, List.setIfInBounds_toArray, List.set_cons_zero, List.set_cons_succ]
            refine RX.seqP_value (fun _ => Below.refl _ _) _ (by first | rfl | simp) (fun w' hw' hctx => ?_) ?_
            · go_simp
              try first | with_reducible rfl | simp
            simp only [Act.put, List.setIfInBounds_toArray, List.set_cons_zero, List.set_cons_succ]
            refine RX.seqP_value (fun _ => Below.refl _ _) _ (by first | rfl | simp) (fun w' hw' hctx => ?_) ?_
            · obtain ⟨j0, j1⟩ := HXY.out w' (below_tr hdr17 hw')
              go_simp
              try first | with_reducible rfl | simp
            simp only [Act.put, List.setIfInBounds_toArray, List.set_cons_zero, List.set_cons_succ]
            refine RX.seqP_value (fun _ => Below.refl _ _) _ (by first | rfl | simp) (fun w' hw' hctx => ?_) ?_
            · go_simp
              try first | with_reducible rfl | simp
            simp only [Act.put, List.setIfInBounds_toArray, List.set_cons_zero, List.set_cons_succ]
            refine RX.seqP_value (fun _ => Below.refl _ _) _ (by first | rfl | simp) (fun w' hw' hctx => ?_) ?_
            · go_simp
              try first | with_reducible rfl | simp
            simp only [Act.put, List.setIfInBounds_toArray, List.set_cons_zero, List.set_cons_succ]
            refine RX.seqP_value (fun _ => Below.refl _ _) _ (by first | rfl | simp) (fun w' hw' hctx => ?_) ?_
            · go_simp
              try first | with_reducible rfl | simp
            simp only [Act.put, List.setIfInBounds_toArray, List.set_cons_zero, List.set_cons_succ]
            refine RX.seqP_value (fun _ => Below.refl _ _) _ (by first | rfl | simp) (fun w' hw' hctx => ?_) ?_
            · go_simp
              try first | with_reducible rfl | simp
            simp only [Act.put, List.setIfInBounds_toArray, List.set_cons_zero, List.set_cons_succ]
            refine RX.seqP_value (fun _ => Below.refl _ _) _ (by first | rfl | simp) (fun w' hw' hctx => ?_) ?_
            · obtain ⟨j0, j1⟩ := HXY.out w' (below_tr hdr17 hw')
              go_simp
              try first | with_reducible rfl | simp
            simp only [Act.put, List.setIfInBounds_toArray, List.set_cons_zero, List.set_cons_succ]
            refine RX.seqP_value (fun _ => Below.refl _ _) _ (by first | rfl | simp) (fun w' hw' hctx => ?_) ?_
            · have hlt3 := HID.out
              go_simp
              try first | with_reducible rfl | simp
            simp only [Act.put, List.setIfInBounds_toArray, List.set_cons_zero, List.set_cons_succ]
            refine RX.seqP_value (fun _ => Below.refl _ _) _ (by first | rfl | simp) (fun w' hw' hctx => ?_) ?_
            · go_simp
              try first | with_reducible rfl | simp
            simp only [Act.put, List.setIfInBounds_toArray, List.set_cons_zero, List.set_cons_succ]
            refine RX.seqP_value (fun _ => Below.refl _ _) _ (by first | rfl | simp) (fun w' hw' hctx => ?_) ?_
            · go_simp
              try first | with_reducible rfl | simp
            simp only [Act.put, List.setIfInBounds_toArray, List.set_cons_zero, List.set_cons_succ]
            refine RX.seqP_nil (fun wz hR hctx _ => ?_)
            have hvz := below_tr hdr17 hR
            clear hctx hR
            go_wp2_with fail
            go_roundg (m - (j + 1))
            case measure => omega
            case rel => exact ⟨j + 1, by go_num, .inl (by omega), Nat.le_refl _, Lib.hid (below_tr BQ1.out hvz)⟩
        · have hltz : ¬ (j : Int) + 1 < (m : Int) := by omega
          have hcon := own_len (t_r206.out.below BQ.out) m (by rw [HM.out]; omega) HM.out
          unfold nodeV at hcon
          go_wp2_with fail
          refine (show Calls Try.prog _ _ _ _ from hcon).mono ?_
          rintro e w5 ⟨rfl, hb5⟩
          have B308 := Lib.hid (below_tr BQ.out hb5)
          clear BQ
          clear hcon hb5
          go_wp2_with fail
          go_ret
          exact ⟨rfl, (below_tr HB206.out B308.out)⟩

theorem well_law (T : TreeSpec) (a0 : Option Addr) (c0 n0 : Nat) (l0 : List Stp) (hn0 : l0.length = n0) (w : World) (hs0 : SlSt w a0 c0 l0) :
    Calls Try.prog 3 #[.slice a0 n0 c0] w fun e w' => e = .returned (.bool true) ∧ Below w.heap.size w w' := by
  cases hz : largeS l0 with
  | true => exact well_large T a0 c0 n0 l0 hn0 w hs0 hz
  | false => exact well_main T a0 c0 n0 l0 hn0 w hs0 hz

end Go.Proofs.Ytfikaccgpjiedaa

/-
  Slices of steps as rows of cells.
-/
namespace Go.Proofs.Ytfikaccgpjiedaa
open Go.RowKit Go.Lib

/-- A step in memory. -/
structure CS where
  a : Option Addr
  c : Nat
  a' : Option Addr
  c' : Nat
  s : Stp

def CS.cs (x : CS) : List Value := [.int .u8 x.s.kind, .slice x.a x.s.key.length x.c, .slice x.a' x.s.to.length x.c', .int .i64 x.s.id]
def flatS (l : List CS) : List Value := l.flatMap CS.cs
def stepsS (l : List CS) : List Stp := l.map CS.s

theorem flatS_app (l m : List CS) : flatS (l ++ m) = flatS l ++ flatS m := by simp [flatS]
theorem flatS_cons (x : CS) (l : List CS) : flatS (x :: l) = x.cs ++ flatS l := by simp [flatS]
theorem flatS_len : ∀ l : List CS, (flatS l).length = l.length * 4
  | [] => rfl
  | x :: l => by rw [flatS_cons, List.length_append, flatS_len l, List.length_cons]; simp [CS.cs]; omega
theorem csS_one (x : CS) : ∀ v ∈ x.cs, v.oneCell' = true := by
  intro v hv
  simp [CS.cs] at hv
  rcases hv with rfl | rfl | rfl | rfl <;> rfl
theorem flatS_one (l : List CS) : ∀ u ∈ flatS l, u.oneCell' = true := by
  intro u hu
  obtain ⟨x, _, hx⟩ := List.mem_flatMap.1 hu
  exact csS_one x u hx
theorem flatS_at : ∀ (l : List CS) (i : Nat) (x : CS), l[i]? = some x → ∀ k, k < 4 → (flatS l)[i * 4 + k]? = x.cs[k]?
  | [], _, _, h, _, _ => by simp at h
  | y :: l, 0, x, h, k, hk => by
      simp at h
      subst h
      rw [flatS_cons, List.getElem?_append_left (by simp [CS.cs]; omega), Nat.zero_mul, Nat.zero_add]
  | y :: l, i + 1, x, h, k, hk => by
      have := flatS_at l i x (by simpa using h) k hk
      rw [flatS_cons, List.getElem?_append_right (by simp [CS.cs]; omega), ← this]
      congr 1
      simp [CS.cs]
      omega

def zS : Value := .agg #[.int .u8 0, .slice none 0 0, .slice none 0 0, .int .i64 0]
theorem elS : ∃ i, El 22 29 4 i zS :=
  el_of (by kernel_rfl) (by kernel_rfl) rfl (by omega) (by intro v hv; simp [zS, Value.cells] at hv; rcases hv with rfl | rfl | rfl <;> rfl) (fun w => by kernel_rfl) (fun w => by kernel_rfl)

/-- Where a step of a row lies. -/
theorem step_at {W : World} {a : Option Addr} {n c : Nat} {css : List CS} (h : RowS 4 W a n c (flatS css)) {i : Nat} {x : CS} (hx : css[i]? = some x) :
    ∃ b o, a = some ⟨b, o, none⟩ ∧ b < W.heap.size ∧ i < n ∧ W.cell? ⟨b, o + i * 4, none⟩ = some (.int .u8 x.s.kind) ∧ W.cell? ⟨b, o + i * 4 + 1, none⟩ = some (.slice x.a x.s.key.length x.c) ∧ W.cell? ⟨b, o + i * 4 + 2, none⟩ = some (.slice x.a' x.s.to.length x.c') ∧ W.cell? ⟨b, o + i * 4 + 3, none⟩ = some (.int .i64 x.s.id) ∧
      ∀ k, k < 4 → W.frozen? ⟨b, o + i * 4 + k, none⟩ = false := by
  have hi := (List.getElem?_eq_some_iff.1 hx).1
  have hl := h.len
  rw [flatS_len] at hl
  have hnc := h.nc
  have hin : i < n := by omega
  rcases h.at' with ⟨_, h0⟩ | ⟨b, o, rfl, hb, hc, hr⟩
  · omega
  · have f := flatS_at css i x hx
    have g := fun k (hk : k < 4) v (hv : x.cs[k]? = some v) => hc (i * 4 + k) v (by rw [f k hk]; exact hv)
    refine ⟨b, o, rfl, hb, hin, g 0 (by omega) _ rfl, ?_, ?_, ?_, fun k hk => ?_⟩
    · rw [Nat.add_assoc]; exact g 1 (by omega) _ rfl
    · rw [Nat.add_assoc]; exact g 2 (by omega) _ rfl
    · rw [Nat.add_assoc]; exact g 3 (by omega) _ rfl
    · rw [Nat.add_assoc]
      have h2 : (i + 1) * 4 ≤ c * 4 := Nat.mul_le_mul_right _ (by omega)
      exact (hr (i * 4 + k) (by omega)).2

/-- The steps of a slice, one by one. -/
theorem SlSt.css {W : World} {a : Option Addr} {c : Nat} {l : List Stp} (h : SlSt W a c l) :
    ∃ css : List CS, stepsS css = l ∧ (∀ x ∈ css, SlL W x.a x.c x.s.key ∧ SlL W x.a' x.c' x.s.to) ∧ ∀ (i : Nat) x, css[i]? = some x → ∃ b o, a = some ⟨b, o, none⟩ ∧ b < W.heap.size ∧ W.cell? ⟨b, o + i * 4, none⟩ = some (.int .u8 x.s.kind) ∧ W.cell? ⟨b, o + i * 4 + 1, none⟩ = some (.slice x.a x.s.key.length x.c) ∧ W.cell? ⟨b, o + i * 4 + 2, none⟩ = some (.slice x.a' x.s.to.length x.c') ∧ W.cell? ⟨b, o + i * 4 + 3, none⟩ = some (.int .i64 x.s.id) := by
  haveI : Inhabited CS := ⟨⟨none, 0, none, 0, ⟨0, [], [], 0⟩⟩⟩
  have hk : ∀ i, i < l.length → ∃ x : CS, l[i]? = some x.s ∧ (∃ b o, a = some ⟨b, o, none⟩ ∧ b < W.heap.size ∧ W.cell? ⟨b, o + i * 4, none⟩ = some (.int .u8 x.s.kind) ∧ W.cell? ⟨b, o + i * 4 + 1, none⟩ = some (.slice x.a x.s.key.length x.c) ∧ W.cell? ⟨b, o + i * 4 + 2, none⟩ = some (.slice x.a' x.s.to.length x.c') ∧ W.cell? ⟨b, o + i * 4 + 3, none⟩ = some (.int .i64 x.s.id)) ∧ SlL W x.a x.c x.s.key ∧ SlL W x.a' x.c' x.s.to := fun i hi => by
    obtain ⟨s, hs⟩ : ∃ s, l[i]? = some s := ⟨l[i], by simp [hi]⟩
    obtain ⟨b, o, rfl, ka, kc, ta, tc, d0, d1, d2, d3, h4, h5, h6⟩ := at_st h hs
    exact ⟨⟨ka, kc, ta, tc, s⟩, hs, ⟨b, o, rfl, h6, d0, d1, d2, d3⟩, h4, h5⟩
  obtain ⟨f, hf⟩ := Deep.choose_lt hk
  have hget : ∀ (i : Nat) x, ((List.range l.length).map f)[i]? = some x → i < l.length ∧ x = f i := fun i x hx => by
    rw [List.getElem?_map] at hx
    obtain ⟨j, h1, rfl⟩ := Option.map_eq_some_iff.1 hx
    obtain ⟨h2, h3⟩ := List.getElem?_eq_some_iff.1 h1
    have h4 : i < l.length := by simpa using h2
    rw [List.getElem_range] at h3
    subst h3
    exact ⟨h4, rfl⟩
  refine ⟨(List.range l.length).map f, ?_, fun x hx => ?_, fun i x hx => ?_⟩
  · apply List.ext_getElem?
    intro i
    by_cases hi : i < l.length
    · rw [(hf i hi).1]
      simp [stepsS, hi]
    · have h1 : (stepsS ((List.range l.length).map f)).length = l.length := by unfold stepsS; simp
      rw [List.getElem?_eq_none (by omega), List.getElem?_eq_none (by omega)]
  · obtain ⟨i, hi, rfl⟩ := List.mem_map.1 hx
    exact (hf i (by simpa using hi)).2.2
  · obtain ⟨hi, rfl⟩ := hget i x hx
    exact (hf i hi).2.1

/-- A row of steps' cells, as a slice of steps. -/
theorem slSt_of_row {W : World} {a : Option Addr} {m c : Nat} {css : List CS} (h : RowS 4 W a m c (flatS css)) (hel : css.length = m) (hk : ∀ x ∈ css, SlL W x.a x.c x.s.key ∧ SlL W x.a' x.c' x.s.to) (hw : ∀ x ∈ css, (0 ≤ x.s.kind ∧ x.s.kind ≤ 255) ∧ I64 x.s.id) : SlSt W a c (stepsS css) := by
  refine ⟨by unfold stepsS; rw [List.length_map, hel]; exact h.nc, h.cm, fun hne => ?_, fun y hy => ?_⟩
  · rcases h.at' with ⟨_, h0⟩ | ⟨b, o, rfl, hb', _, _⟩
    · have h1 := h.nc
      have h2 : css.length = 0 := by omega
      have h3 : css = [] := List.eq_nil_of_length_eq_zero h2
      rw [h3] at hne
      exact absurd rfl hne
    · refine ⟨b, o, rfl, fun i y hy => ?_⟩
      obtain ⟨x, hx, rfl⟩ : ∃ x, css[i]? = some x ∧ x.s = y := by
        unfold stepsS at hy
        rw [List.getElem?_map] at hy
        obtain ⟨x, h1, h2⟩ := Option.map_eq_some_iff.1 hy
        exact ⟨x, h1, h2⟩
      obtain ⟨b', o', e3, _, _, d0, d1, d2, d3, _⟩ := step_at h hx
      cases e3
      obtain ⟨k1, k2⟩ := hk x (List.mem_of_getElem? hx)
      exact ⟨x.a, x.c, x.a', x.c', d0, d1, d2, d3, k1, k2, hb'⟩
  · obtain ⟨x, hx, rfl⟩ := List.mem_map.1 hy
    exact hw x hx

end Go.Proofs.Ytfikaccgpjiedaa

