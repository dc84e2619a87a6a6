/-
  Slices of values; sorted: a new slice of the same values, by where they begin.
-/
import Derived.Test.YtnifpphimodonaaSRef
import Derived.Test.YtnifpphimodonaaShelf
import Derived.Maps.AppendAt
import Derived.Shelf.SlSortCmp.NoneTotal
namespace Go.Proofs.Ytnifpphimodonaa
open Go.RowKit Go.Shelf Go.Lib Go.Sort

/-- n values lie in block g from its head on, and may be written. -/
structure RowF (W : World) (g n : Nat) (D : Nat → Val) : Prop where
  at' : ∀ i, i < n → AtV W g (i * 4) (D i)
  fz : ∀ t, t < n * 4 → W.frozen? ⟨g, t, none⟩ = false
  lt : g < W.heap.size

theorem RowF.below {W W' : World} {g n : Nat} {D : Nat → Val} (h : RowF W g n D) (hb : Below W.heap.size W W') : RowF W' g n D :=
  ⟨fun i hi => (h.at' i hi).below hb, fun t ht => by rw [hb.frozen (p := ⟨g, t, none⟩) h.lt]; exact h.fz t ht, Nat.lt_of_lt_of_le h.lt hb.size⟩

def encV (v : Val) : List Value := [.int .u8 v.k, .int .i64 v.n, .int .i64 v.u, .string v.t]

theorem isnan_is (x : Int) (w : World) : Calls Try.prog 45 #[.int .i64 x] w fun e w' => e = .returned (.bool false) ∧ w' = w := by
  go_enter Try.func45, Try.ntmps45
  go_wp2
  go_ret
  exact ⟨by simp, rfl⟩

def cmpI (x y : Int) : Int := if x < y then -1 else if y < x then 1 else 0

theorem cmp_is (x y : Int) (w : World) : Calls Try.prog 42 #[.int .i64 x, .int .i64 y] w fun e w' => e = .returned (.int .i64 (cmpI x y)) ∧ w' = w := by
  unfold cmpI
  by_cases h1 : x < y
  · rw [if_pos h1]
    go_enter Try.func42, Try.ntmps42
    go_wp2_with (go_at_call 45; refine (isnan_is _ _).mono ?_; rintro e w' ⟨rfl, rfl⟩)
    go_ret
    exact ⟨rfl, rfl⟩
  · rw [if_neg h1]
    by_cases h2 : y < x
    · rw [if_pos h2]
      go_enter Try.func42, Try.ntmps42
      go_wp2_with (go_at_call 45; refine (isnan_is _ _).mono ?_; rintro e w' ⟨rfl, rfl⟩)
      go_ret
      exact ⟨rfl, rfl⟩
    · rw [if_neg h2]
      go_enter Try.func42, Try.ntmps42
      go_wp2_with (go_at_call 45; refine (isnan_is _ _).mono ?_; rintro e w' ⟨rfl, rfl⟩)
      go_ret
      exact ⟨rfl, rfl⟩

def cmpV (x y : Val) : Int := cmpI x.n y.n

theorem by_is (x y : Val) (W : World) : Calls Try.prog 41 #[.agg #[.int .u8 x.k, .int .i64 x.n, .int .i64 x.u, .string x.t], .agg #[.int .u8 y.k, .int .i64 y.n, .int .i64 y.u, .string y.t]] W fun e w' => e = .returned (.int .i64 (cmpV x y)) ∧ ∃ q os', w' = grow (W.drewN q) os' := by
  have hcon := fun W' => cmp_is x.n y.n W'
  unfold cmpV
  generalize cmpI x.n y.n = r at hcon ⊢
  go_enter Try.func41, Try.ntmps41
  go_wp2_with (go_at_call 42; refine (hcon _).mono ?_; rintro e w' ⟨rfl, rfl⟩)
  go_ret
  exact ⟨rfl, 0, _, by rw [alloc_eq_grow, alloc_eq_grow, grow_grow]; rfl⟩

theorem by_lays (blk off size : Nat) (w : World) : CmpLays Try.prog 41 #[] encV 4 cmpV blk off size w :=
  fun _ _ _ _ x y => by_is x y _

theorem ltV (x y : Val) : ltOf cmpV x y = decide (x.n < y.n) := by
  unfold ltOf cmpV cmpI
  by_cases h1 : x.n < y.n
  · simp [h1]
  · by_cases h2 : y.n < x.n <;> simp [h1, h2]

theorem swoV : SWO (ltOf cmpV) where
  irrefl x := by rw [ltV]; simp
  trans x y z h1 h2 := by rw [ltV] at *; simp at *; omega
  ntrans x y z h1 h2 := by rw [ltV] at *; simp at *; omega

theorem encV_one (x : Val) : ∀ v ∈ encV x, v.oneCell' = true := by
  intro v hv
  simp only [encV, List.mem_cons, List.not_mem_nil, or_false] at hv
  rcases hv with rfl | rfl | rfl | rfl <;> rfl

theorem info_v : (Try.prog.info? 23).map (fun i => (i.zero, i.size, i.bytes)) = some (some (.agg #[.int .u8 0, .int .i64 0, .int .i64 0, .string ⟨#[]⟩]), 4, 40) := by kernel_rfl

/-- A slice's cells, one behind the other. -/
def flatV (D : Nat → Val) (n : Nat) : List Value := (List.range n).flatMap fun i => encV (D i)

theorem flatV_succ (D : Nat → Val) (n : Nat) : flatV D (n + 1) = flatV D n ++ encV (D n) := by
  simp [flatV, List.range_succ]

theorem flatV_len (D : Nat → Val) (n : Nat) : (flatV D n).length = n * 4 := by
  induction n with
  | zero => rfl
  | succ n ih => rw [flatV_succ, List.length_append, ih]; simp [encV]; omega

theorem flatV_get (D : Nat → Val) (n i c : Nat) (hi : i < n) (hc : c < 4) : (flatV D n)[i * 4 + c]? = (encV (D i))[c]? := by
  induction n with
  | zero => omega
  | succ n ih =>
    rw [flatV_succ]
    rcases Nat.lt_succ_iff_lt_or_eq.1 hi with h | rfl
    · rw [List.getElem?_append_left (by rw [flatV_len]; omega)]
      exact ih h
    · rw [List.getElem?_append_right (by rw [flatV_len]; omega), flatV_len]
      congr 1
      omega

theorem flatV_one (D : Nat → Val) (n : Nat) : ∀ u ∈ flatV D n, u.oneCell' = true := by
  intro u hu
  simp only [flatV, List.mem_flatMap] at hu
  obtain ⟨i, _, h⟩ := hu
  exact encV_one _ u h

/-- What an element's cells hold, by their place. -/
theorem encV_get {W : World} {b o : Nat} {v : Val} (h : AtV W b o v) {c : Nat} {u : Value} (hu : (encV v)[c]? = some u) : W.cell? ⟨b, o + c, none⟩ = some u := by
  obtain ⟨h0, h1, h2, h3, _⟩ := h
  match c, hu with
  | 0, hu => simp [encV] at hu; subst hu; exact h0
  | 1, hu => simp [encV] at hu; subst hu; exact h1
  | 2, hu => simp [encV] at hu; subst hu; exact h2
  | 3, hu => simp [encV] at hu; subst hu; exact h3
  | c + 4, hu => simp [encV] at hu

theorem atV_of {W : World} {b o : Nat} {v : Val} (h : ∀ c u, (encV v)[c]? = some u → W.cell? ⟨b, o + c, none⟩ = some u) (hb : b < W.heap.size) : AtV W b o v :=
  ⟨h 0 _ rfl, h 1 _ rfl, h 2 _ rfl, h 3 _ rfl, hb⟩

/-- slices.Clone of values that lie in memory. -/
theorem clone_is (b o n c : Nat) (D : Nat → Val) (w : World) (hn : n * 40 ≤ 140737488355328) (hat : ∀ i, i < n → AtV w b (o + i * 4) (D i)) :
    Calls Try.prog 39 #[.slice (some ⟨b, o, none⟩) n c] w fun e w' => ∃ g cap, e = .returned (.slice (some ⟨g, 0, none⟩) n cap) ∧ n ≤ cap ∧ w.heap.size ≤ g ∧ RowF w' g n D ∧ Below w.heap.size w w' := by
  obtain ⟨i0, hi, hz0, hz1, hz2⟩ := info_parts info_v
  have hcon := AnyE.slices_Clone Try.cloneV i0 (.agg #[.int .u8 0, .int .i64 0, .int .i64 0, .string ⟨#[]⟩]) 4 40 hi hz0 hz1 hz2 rfl (by decide) (fun _ => by kernel_rfl) b o n c (flatV D n) w (flatV_len D n) (by unfold maxLen; omega) hn
    (fun j u hj => by
      have hjl : j < n * 4 := by have := (List.getElem?_eq_some_iff.1 hj).1; rwa [flatV_len] at this
      have e : j = j / 4 * 4 + j % 4 := by omega
      rw [e] at hj
      rw [flatV_get D n _ _ (by omega) (by omega)] at hj
      have := encV_get (hat (j / 4) (by omega)) hj
      rw [show o + j = o + j / 4 * 4 + j % 4 by omega]
      exact this)
    (flatV_one D n)
  change Calls Try.prog 39 _ _ _ at hcon
  refine hcon.mono ?_
  rintro e w' ⟨v', rfl, hown, hne, hb⟩
  rcases hown.2 with ⟨rfl, _⟩ | ⟨g, cap, cur, rfl, hbg, hg, hnc, hcm, hcs, hxs⟩
  · exact absurd rfl hne
  · refine ⟨g, cap, rfl, hnc, hbg, ⟨fun i hi' => atV_of (fun c u hu => ?_) (Array.getElem?_eq_some_iff.1 hg).1, fun t ht => ?_, (Array.getElem?_eq_some_iff.1 hg).1⟩, hb⟩
    · have hc : c < 4 := by have := (List.getElem?_eq_some_iff.1 hu).1; simpa [encV] using this
      have := flatV_get D n i c hi' hc
      rw [hu, ← hxs, List.getElem?_take_of_lt (by omega)] at this
      simp [World.cell?, show w'.heap[g]? = _ from hg]
      simpa using this
    · simp [World.frozen?, show w'.heap[g]? = _ from hg]

/-- sorted: a permutation, which rises. -/
def SortedOf (n : Nat) (D D' : Nat → Val) : Prop :=
  ((List.range n).map D').Perm ((List.range n).map D) ∧ ∀ i j, i < j → j < n → (D' i).n ≤ (D' j).n

def arrV (D : Nat → Val) (n : Nat) : Array Val := ((List.range n).map D).toArray

theorem arrV_size (D : Nat → Val) (n : Nat) : (arrV D n).size = n := by simp [arrV]
theorem arrV_get (D : Nat → Val) (n i : Nat) (h : i < n) : (arrV D n)[i]! = D i := by simp [arrV, h]

theorem holds_of {W : World} {g n : Nat} {D : Nat → Val} (h : RowF W g n D) : HoldsK encV 4 W g 0 (arrV D n) := by
  intro t ht
  rw [size_flatK, arrV_size] at ht
  rw [get_flatK _ _ _ _ (by rw [arrV_size]; exact ht), arrV_get _ _ _ (by omega)]
  refine ⟨?_, by rw [Nat.zero_add]; exact h.fz t ht⟩
  have hg : (encV (D (t / 4)))[t % 4]? = some ((encV (D (t / 4)))[t % 4]!) := by
    have : t % 4 < (encV (D (t / 4))).length := by simp [encV]; omega
    rw [List.getElem?_eq_getElem this, getElem!_pos (encV (D (t / 4))) (t % 4) this]
  have := encV_get (h.at' (t / 4) (by omega)) hg
  rw [show t / 4 * 4 + t % 4 = 0 + t by omega] at this
  exact this

theorem row_of {W : World} {g n : Nat} {d : Array Val} (hn : d.size = n) (h : HoldsK encV 4 W g 0 d) (hg : g < W.heap.size) : RowF W g n (fun i => d[i]!) := by
  subst hn
  refine ⟨fun i hi => atV_of (fun c u hu => ?_) hg, fun t ht => ?_, hg⟩
  · have hc : c < 4 := by have := (List.getElem?_eq_some_iff.1 hu).1; simpa [encV] using this
    have := (h.cell hi hc).1
    rw [Nat.zero_add] at this
    rw [this]
    have hl : c < (encV d[i]!).length := by simp [encV]; omega
    rw [getElem!_pos (encV d[i]!) c hl, ← List.getElem?_eq_getElem hl]
    exact hu
  · have := (h.cell (i := t / 4) (c := t % 4) (by omega) (by omega)).2
    rw [show 0 + t / 4 * 4 + t % 4 = t by omega] at this
    exact this

theorem putRow_below {B : Nat} {a W : World} (h : RowKit.Below B a W) {g : Nat} (hg : B ≤ g) (D : Array Value) : RowKit.Below B a (putRow id W g 0 D) := by
  have : ∀ (W2 : World), RowKit.Below B W (putRow id W g 0 D) := fun _ => ⟨rfl, rfl, rfl, by simp [putRow, mapBlock], fun i hi => by
    simp only [putRow, mapBlock]
    rw [Array.getElem?_modify, if_neg (by omega)]⟩
  exact h.trans (this W)

theorem grow_below {B : Nat} {a W : World} (h : RowKit.Below B a W) (hB : B ≤ W.heap.size) (n : Nat) (os : Array Obj) : RowKit.Below B a (grow (Sort.ahead W n) os) :=
  h.trans ⟨rfl, rfl, rfl, by simp [grow, Sort.ahead], fun i hi => by
    show (W.heap ++ os)[i]? = _
    rw [Array.getElem?_append_left (by omega)]⟩

/-- slices.SortFunc, by where they begin. -/
theorem sort_is (g n cap : Nat) (D : Nat → Val) (w : World) (hR : RowF w g n D) (hn : n ≤ 1000) :
    Calls Try.prog 40 #[.slice (some ⟨g, 0, none⟩) n cap, .func (.func 41) #[] #[]] w fun e w' => e = .returned (.tuple #[]) ∧ ∃ D', SortedOf n D D' ∧ RowF w' g n D' ∧ RowKit.Below g w w' := by
  have eg : ∀ args w, (callFunc 41 args).run Try.prog w = .ok (.enter 41 args) w := enters_of Try.func41 (by kernel_rfl) rfl
  have hH := holds_of hR
  have hcon := AnyQ.slices_SortFunc Try.sortV 4 (fun _ => by kernel_rfl) (fun _ => by kernel_rfl) encV (fun _ => rfl) encV_one cmpV swoV 41 #[] g 0 cap (arrV D n) w eg (by_lays g 0 _ w) hH hR.lt (by rw [arrV_size]; omega)
  rw [arrV_size] at hcon
  change Calls Try.prog 40 _ _ _ at hcon
  refine hcon.mono ?_
  rintro e w' ⟨rfl, d', q, os, hp, hs, rfl⟩
  have hsz : d'.size = n := by rw [hp.1, arrV_size]
  refine ⟨rfl, fun i => d'[i]!, ⟨?_, fun i j hij hj => ?_⟩, ?_, ?_⟩
  · have h := hp.2.2
    have e1 : (d'.extract 0 n).toList = (List.range n).map fun i => d'[i]! := by
      apply List.ext_getElem
      · simp [hsz]
      · intro i h1 h2
        have : i < d'.size := by simp at h2; omega
        simp [this]
    have e2 : ((arrV D n).extract 0 n).toList = (List.range n).map D := by
      simp [arrV]
      exact List.take_of_length_le (by simp)
    rw [e1, e2] at h
    exact h
  · have h := hs i j (Nat.zero_le _) hij hj
    rw [ltV] at h
    simp at h
    exact h
  · unfold sortWorldK
    refine row_of hsz (holdsK_grow _ _ _ _ _ _ _ (by simp [putRowK, putRow, mapBlock, Sort.ahead]; exact hR.lt) (holdsK_putRowK _ _ _ _ _ (arrV D n) _ (holdsK_ahead _ _ _ _ _ _ _ hH) (by rw [hsz, arrV_size]))) (by simp [grow, putRowK, putRow, mapBlock, Sort.ahead]; have := hR.lt; omega)
  · unfold sortWorldK
    have h1 : RowKit.Below g w (putRowK encV 4 (Sort.ahead w q) g 0 d') := putRow_below (B := g) (a := w) (W := Sort.ahead w q) ⟨rfl, rfl, rfl, Nat.le_refl _, fun _ _ => rfl⟩ (Nat.le_refl g) _
    have h2 := grow_below h1 (by simp [putRowK, putRow, mapBlock, Sort.ahead]; have := hR.lt; omega) 0 os
    exact h2

set_option maxRecDepth 100000 in
/-- sorted: a new slice. -/
theorem sorted_is (b o n c : Nat) (D : Nat → Val) (w : World) (hn : n ≤ 1000) (hat : ∀ i, i < n → AtV w b (o + i * 4) (D i)) :
    Calls Try.prog 35 #[.slice (some ⟨b, o, none⟩) n c] w fun e w' => ∃ g cap D', e = .returned (.slice (some ⟨g, 0, none⟩) n cap) ∧ n ≤ cap ∧ w.heap.size ≤ g ∧ SortedOf n D D' ∧ RowF w' g n D' ∧ RowKit.Below w.heap.size w w' := by
  have hcon := clone_is b o n c D w (by omega) hat
  clear hat
  have HN := Lib.hid hn
  go_enter Try.func35, Try.ntmps35
  go_wp2_with fail
  refine hcon.mono ?_
  rintro e w1 ⟨g, cap, rfl, hnc, hbg, hR, hb1⟩
  have hcon2 := sort_is g n cap D w1 hR HN.out
  clear hcon hR
  go_wp2_with fail
  refine hcon2.mono ?_
  rintro e w2 ⟨rfl, D', hS, hR2, hb2⟩
  go_wp2_with fail
  go_ret
  exact ⟨g, cap, D', rfl, hnc, hbg, hS, hR2, hb1.trans (hb2.mono hbg)⟩

end Go.Proofs.Ytnifpphimodonaa
