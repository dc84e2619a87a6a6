/-
  Columns appended to rows of the call's own; what such an append keeps of other rows (stage 8).
-/
import Derived.Test.YtkipnkbmpgjcoaaTCol
import Derived.Laws.OwnMore
import Derived.Maps.AppendAt
namespace Go.Proofs.Ytkipnkbmpgjcoaa
open Go.RowKit
set_option linter.unusedVariables false

/-- Append onto a row of the call's own, and what it keeps: any row whose content is a beginning of what comes of it. -/
theorem app_keep {P : Program} (w : World) (base : Nat) (t ty e : TypeId) (i : TypeInfo) (z : Value) (size bytes : Nat) (ht : P.underlying t = some (.slice e)) (hi : P.info? e = some i) (hz : i.zero = some z)
    (hsize : i.size = size) (hby : i.bytes = bytes) (hzs : z.cells.size = size) (hsz : 0 < size)
    (v : Value) (n : Nat) (xs : List Value) (hown : w.ownsRow base e size v n xs)
    (a : Addr) (m c : Nat) (news : List Value) (hl : news.length = m * size) (hnews : ∀ j u, news[j]? = some u → w.cell? (a.add j) = some u) (h1 : ∀ u ∈ news, u.oneCell' = true)
    (h63 : n + m ≤ maxLen) (hbytes : (n + m) * bytes ≤ 140737488355328) (hbase : base ≤ w.heap.size) :
    ∃ v' w', (Builtin.append_ #[t, t] ty #[v, .slice (some a) m c]).run P w = .ok v' w' ∧ w'.ownsRow base e size v' (n + m) (xs ++ news) ∧ w.grownBy w' v.ownBlock ∧
      ∀ s k ys, ((k ≤ n + m ∧ ys = (xs ++ news).take (k * size)) ∨ (n + m ≤ k ∧ xs ++ news = ys.take ((n + m) * size)) ∨ k ≤ n ∨ ∃ h, v = .slice (some ⟨h, 0, none⟩) 0 0) → w.ownsRow base e size s k ys → w'.ownsRow base e size s k ys := by
  obtain ⟨v', w', hr, ho, hg, _, _⟩ := run_append_own_at (P := P) w base t ty e i z size bytes ht hi hz hsize hby hzs hsz v n xs hown a m c news hl hnews h1 h63 hbytes hbase
  refine ⟨v', w', hr, ho, hg, fun s k ys hk hs => ?_⟩
  by_cases hb : s.ownBlock = none ∨ s.ownBlock ≠ v.ownBlock
  · exact hs.kept hg hb
  · have hlen : (xs ++ news).length = (n + m) * size := by rw [List.length_append, hown.1, hl, Nat.add_mul]
    rcases hown.2 with ⟨h2, h3⟩ | ⟨g, cap, cur, rfl, hbg, hgc, hnc, hcm, hcs, htake⟩
    · subst h2
      exact absurd (by cases hq : s.ownBlock with | none => exact Or.inl rfl | some q => exact Or.inr (by rw [show Value.ownBlock (.slice none 0 0) = none from rfl]; simp)) hb
    · by_cases hroom : n + m ≤ cap
      · subst hsize
        have hfit : n * i.size + news.length ≤ cur.size := by rw [hl, hcs, ← Nat.add_mul]; exact Nat.mul_le_mul_right _ hroom
        have hr2 := run_append_room (P := P) w t ty e i ht hi g n cap cur hgc a m c news hl hnews h1 hroom hfit
        rw [hr] at hr2
        injection hr2 with e1 e2
        subst e2
        rcases hs.2 with ⟨rfl, _⟩ | ⟨g', cap', cur', rfl, hbg', hgc', hnc', hcm', hcs', htake'⟩
        · exact absurd (Or.inl rfl) hb
        · have hgg : g' = g := by
            have : ¬ (Value.ownBlock (.slice (some ⟨g', 0, none⟩) k cap') ≠ Value.ownBlock (.slice (some ⟨g, 0, none⟩) n cap)) := fun h => hb (Or.inr h)
            simpa [Value.ownBlock] using this
          subst hgg
          rw [hgc] at hgc'
          injection hgc' with hgc'
          injection hgc' with hgc' _ _
          subst hgc'
          refine ⟨hs.1, .inr ⟨g', cap', _, rfl, hbg', setRow_heap w g' cur _ e _ hgc, hnc', hcm', ?_, ?_⟩⟩
          · rw [← hcs']
            simp only [List.size_toArray, List.length_append, List.length_take, List.length_drop, Array.length_toList]
            omega
          · have hx : (cur.toList.take (n * i.size) ++ news ++ cur.toList.drop (n * i.size + news.length)).take (k * i.size) = ys := by
             rcases hk with ⟨hk, rfl⟩ | ⟨hk, hp⟩ | hk | ⟨h, hv⟩
             · rw [htake, List.take_append_of_le_length]
               rw [hlen]
               exact Nat.mul_le_mul_right _ hk
             · have hK : (n + m) * i.size ≤ k * i.size := Nat.mul_le_mul_right _ hk
               have hd : n * i.size + news.length = (n + m) * i.size := by rw [hl, Nat.add_mul]
               rw [htake, hd, List.take_append, hlen, List.take_of_length_le (by rw [hlen]; exact hK), ← List.drop_take, htake', hp, List.take_append_drop]
             · have hK : k * i.size ≤ n * i.size := Nat.mul_le_mul_right _ hk
               rw [List.append_assoc, List.take_append_of_le_length (by rw [List.length_take, Array.length_toList]; omega), List.take_take, Nat.min_eq_left hK]
               exact htake'
             · simp only [Value.slice.injEq] at hv
               obtain ⟨_, rfl, rfl⟩ := hv
               obtain rfl : m = 0 := by omega
               obtain rfl : news = [] := List.length_eq_zero_iff.1 (by rw [hl]; simp)
               simp only [Nat.zero_mul, List.take_zero, List.append_nil, List.nil_append, List.length_nil, Nat.add_zero, List.drop_zero]
               exact htake'
            simpa using hx
      · have holds : ∀ j u, xs[j]? = some u → w.cell? ((⟨g, 0, none⟩ : Addr).add j) = some u := hown.cells (g := g) rfl
        have hr2 := run_append_grow (P := P) w t ty e i z ht hi hz ⟨g, 0, none⟩ n cap xs (by rw [hsize]; exact hown.1) holds a m c news (by rw [hsize]; exact hl) hnews (by omega) (by simp only [maxLen] at h63; omega) (growslice_fits (by omega) (by rw [hby]; exact hbytes))
        rw [hr] at hr2
        injection hr2 with e1 e2
        subst e2
        exact World.ownsRow.alloc (w := w.drew) hs _

def encC (c : Col) : List Value := [.string c.nm, .int .u8 c.ty, .int .u8 c.v.k, .int .i64 c.v.n, .int .i64 c.v.u, .string c.v.t]
def flatC (l : List Col) : List Value := l.flatMap encC

theorem encC_one (x : Col) : ∀ v ∈ encC x, v.oneCell' = true := by
  intro v hv
  simp only [encC, List.mem_cons, List.not_mem_nil, or_false] at hv
  rcases hv with rfl | rfl | rfl | rfl | rfl | rfl <;> rfl

theorem encC_get {W : World} {b o : Nat} {x : Col} (h : AtC W b o x) {c : Nat} {u : Value} (hu : (encC x)[c]? = some u) : W.cell? ⟨b, o + c, none⟩ = some u := by
  obtain ⟨h0, h1, h2, h3, h4, h5, _⟩ := h
  match c, hu with
  | 0, hu => simp [encC] at hu; subst hu; exact h0
  | 1, hu => simp [encC] at hu; subst hu; exact h1
  | 2, hu => simp [encC] at hu; subst hu; exact h2
  | 3, hu => simp [encC] at hu; subst hu; exact h3
  | 4, hu => simp [encC] at hu; subst hu; exact h4
  | 5, hu => simp [encC] at hu; subst hu; exact h5
  | c + 6, hu => simp [encC] at hu

theorem atC_of {W : World} {b o : Nat} {x : Col} (h : ∀ c u, (encC x)[c]? = some u → W.cell? ⟨b, o + c, none⟩ = some u) (hb : b < W.heap.size) : AtC W b o x :=
  ⟨h 0 _ rfl, h 1 _ rfl, h 2 _ rfl, h 3 _ rfl, h 4 _ rfl, h 5 _ rfl, hb⟩

theorem info_c : (Try.prog.info? 49).map (fun i => (i.zero, i.size, i.bytes)) = some (some (.agg #[.string ⟨#[]⟩, .int .u8 0, .int .u8 0, .int .i64 0, .int .i64 0, .string ⟨#[]⟩]), 6, 64) := by kernel_rfl

theorem flatC_app (l m : List Col) : flatC (l ++ m) = flatC l ++ flatC m := by simp [flatC]
theorem flatC_len : ∀ l : List Col, (flatC l).length = l.length * 6
  | [] => rfl
  | x :: l => by
    have := flatC_len l
    simp only [flatC, List.flatMap_cons, List.length_append, List.length_cons] at this ⊢
    rw [this]
    simp [encC]
    omega
theorem flatC_one (l : List Col) : ∀ u ∈ flatC l, u.oneCell' = true := by
  intro u hu
  simp only [flatC, List.mem_flatMap] at hu
  obtain ⟨x, _, h⟩ := hu
  exact encC_one _ u h
theorem flatC_get : ∀ (l : List Col) (i c : Nat) (x : Col), l[i]? = some x → c < 6 → (flatC l)[i * 6 + c]? = (encC x)[c]?
  | [], i, c, x, h, _ => by simp at h
  | y :: l, 0, c, x, h, hc => by
    simp at h
    subst h
    show (encC y ++ flatC l)[0 * 6 + c]? = _
    rw [List.getElem?_append_left (by simp [encC]; omega)]
    congr 1
    omega
  | y :: l, i + 1, c, x, h, hc => by
    show (encC y ++ flatC l)[(i + 1) * 6 + c]? = _
    rw [List.getElem?_append_right (by simp [encC]; omega)]
    have := flatC_get l i c x (by simpa using h) hc
    rw [show (i + 1) * 6 + c - (encC y).length = i * 6 + c by simp [encC]; omega, this]

theorem flatC_take (l : List Col) (k : Nat) (h : k ≤ l.length) : flatC (l.take k) = (flatC l).take (k * 6) := by
  have e : flatC l = flatC (l.take k) ++ flatC (l.drop k) := by rw [← flatC_app, List.take_append_drop]
  have hl : (flatC (l.take k)).length = k * 6 := by rw [flatC_len, List.length_take, Nat.min_eq_left h]
  rw [e, List.take_append_of_le_length (Nat.le_of_eq hl.symm), ← hl]
  exact (List.take_of_length_le (Nat.le_refl _)).symm

/-- A row of columns of the call's own. -/
def OwnC (base : Nat) (W : World) (s : Value) (l : List Col) : Prop := W.ownsRow base 49 6 s l.length (flatC l)

theorem OwnC.sl {W : World} {base : Nat} {s : Value} {l : List Col} (h : OwnC base W s l) (hw : ∀ x ∈ l, x.wf) : ∃ a c, s = .slice a l.length c ∧ SlC W a c l := by
  rcases h.2 with ⟨h1, h2⟩ | ⟨g, cap, cur, rfl, hbg, hg, hnc, hcm, hcs, hxs⟩
  · obtain rfl := List.length_eq_zero_iff.1 h2
    exact ⟨none, 0, h1, SlC.nil _ _ _ (Nat.zero_le _)⟩
  · refine ⟨_, cap, rfl, hnc, hcm, fun _ => ⟨g, 0, rfl, fun i x hx => atC_of (fun c u hu => ?_) (some_lt hg)⟩, hw⟩
    have hc : c < 6 := by have := (List.getElem?_eq_some_iff.1 hu).1; simpa [encC] using this
    have hi : i < l.length := (List.getElem?_eq_some_iff.1 hx).1
    have := flatC_get l i c x hx hc
    rw [hu, ← hxs, List.getElem?_take_of_lt (by omega)] at this
    simp [World.cell?, show W.heap[g]? = _ from hg]
    simpa using this

theorem app_col {W : World} {base : Nat} {s : Value} {l m : List Col} {a : Option Addr} {c : Nat} (hb : base ≤ W.heap.size) (ho : OwnC base W s l) (hm : SlC W a c m) (hlen : l.length + m.length ≤ 1000000) (hw : ∀ x ∈ l, x.wf) :
    ∃ s' W', (Builtin.append_ #[30, 30] 30 #[s, .slice a m.length c]).run Try.prog W = .ok s' W' ∧ OwnC base W' s' (l ++ m) ∧ Below base W W' ∧ W.grownBy W' s.ownBlock ∧
      ∀ s2 p, ((∃ F j k, j ≤ List.length F ∧ l ++ m = F.take j ∧ k ≤ F.length ∧ p = F.take k) ∨ p.length ≤ l.length ∨ ∃ h, s = .slice (some ⟨h, 0, none⟩) 0 0) → OwnC base W s2 p → OwnC base W' s2 p := by
  obtain ⟨i0, hi, hz0, hz1, hz2⟩ := info_parts info_c
  cases a with
  | none =>
    have hnil : m = [] := by
      cases m with
      | nil => rfl
      | cons x m => obtain ⟨b, o, e, _⟩ := hm.at' (by simp); cases e
    subst hnil
    have hsl := ho.sl hw
    refine ⟨s, W, ?_, by simpa using ho, Below.refl _ _, ⟨rfl, rfl, rfl, Nat.le_refl _, fun _ _ _ => rfl⟩, fun _ _ _ h => h⟩
    obtain ⟨a', c', rfl, hsl'⟩ := hsl
    have hlc := hsl'.lc
    have hu : Try.prog.underlying 30 = some (.slice 49) := Try.underlying30
    cases a' with
    | none => simp [Builtin.append_, run_underlying hu, sizeOf, typeInfo, hi, Builtin.lenOf, Builtin.firstCells, hlc]
    | some a' => simp [Builtin.append_, run_underlying hu, sizeOf, typeInfo, hi, Builtin.lenOf, Builtin.firstCells, loadCells, storeCells, hlc]
  | some ad =>
    have hf : m = [] ∨ ∃ b o, ad = ⟨b, o, none⟩ ∧ LstC W b o m := by
      cases m with
      | nil => exact .inl rfl
      | cons x m => obtain ⟨b, o, e, h⟩ := hm.at' (by simp); exact .inr ⟨b, o, by injection e, h⟩
    obtain ⟨v', W', hrun, h2, hg, hk⟩ := app_keep (P := Try.prog) W base 30 30 49 i0 (.agg #[.string ⟨#[]⟩, .int .u8 0, .int .u8 0, .int .i64 0, .int .i64 0, .string ⟨#[]⟩]) 6 64 Try.underlying30 hi hz0 hz1 hz2 rfl (by decide)
      s l.length (flatC l) ho ad m.length c (flatC m) (flatC_len m)
      (fun j u hj => by
        have hjl : j < m.length * 6 := by have := (List.getElem?_eq_some_iff.1 hj).1; rwa [flatC_len] at this
        rcases hf with rfl | ⟨b, o, rfl, hat⟩
        · simp at hjl
        · have e : j = j / 6 * 6 + j % 6 := by omega
          obtain ⟨x, hx⟩ := getC (l := m) (i := j / 6) (by omega)
          have h3 := flatC_get m (j / 6) (j % 6) x hx (Nat.mod_lt _ (by decide))
          rw [← e, hj] at h3
          have := encC_get (hat _ _ hx) h3.symm
          rw [Addr.add_lit, show o + j = o + j / 6 * 6 + j % 6 by omega]
          exact this)
      (flatC_one m) (by unfold maxLen; omega) (by omega) hb
    refine ⟨v', W', hrun, ?_, ?_, hg, fun s2 p hp h => ?_⟩
    · unfold OwnC
      rw [List.length_append, flatC_app]
      exact h2
    · exact ((Below.refl base W).grown hg hb (fun k e => (ho.lt k e).1))
    · rcases hp with ⟨F, j, k, hj, hF, hk2, rfl⟩ | hp | hp
      case' inr.inl => exact hk s2 p.length _ (.inr (.inr (.inl hp))) h
      case' inr.inr => exact hk s2 p.length _ (.inr (.inr (.inr hp))) h
      have hl2 : (F.take k).length = k := by rw [List.length_take, Nat.min_eq_left hk2]
      have hlm : l.length + m.length = j := by rw [← List.length_append, hF, List.length_take, Nat.min_eq_left hj]
      unfold OwnC at h ⊢
      rw [hl2, flatC_take _ _ hk2] at h ⊢
      refine hk s2 k _ ?_ h
      rw [← flatC_app, hF, flatC_take _ _ hj, hlm]
      by_cases hkj : k ≤ j
      · refine .inl ⟨hkj, ?_⟩
        rw [List.take_take, Nat.min_eq_left (Nat.mul_le_mul_right _ hkj)]
      · refine .inr (.inl ⟨by omega, ?_⟩)
        rw [List.take_take, Nat.min_eq_left (Nat.mul_le_mul_right _ (by omega))]

/-! ### What a region that builds a row, and puts it into a struct's cell, keeps -/

/-- The struct in block g has a row of the columns F in its cell 1. -/
def GoodC (g : Nat) (F : List Col) (w : World) : Prop := ∃ s, w.cell? ⟨g, 1, none⟩ = some s ∧ OwnC (g + 1) w s F

/-- The rows that are kept: the beginnings of F, and E. -/
def PK (F E l : List Col) : Prop := (∃ k, k ≤ F.length ∧ l = F.take k) ∨ l = E
theorem PK.all (F E : List Col) : PK F E F := .inl ⟨F.length, Nat.le_refl _, by rw [List.take_length]⟩
theorem PK.nil (F E : List Col) : PK F E [] := .inl ⟨0, Nat.zero_le _, rfl⟩
theorem PK.take (F E : List Col) {k : Nat} (h : k ≤ F.length) : PK F E (F.take k) := .inl ⟨k, h, rfl⟩

/-- What lies below block g stays, the struct's other cells stay, and rows behind it of such contents stay. -/
structure KR (g : Nat) (F E : List Col) (w w' : World) : Prop where
  low : Below g w w'
  own : ∀ s l, PK F E l → OwnC (g + 1) w s l → OwnC (g + 1) w' s l
  c0 : w'.cell? ⟨g, 0, none⟩ = w.cell? ⟨g, 0, none⟩
  c2 : w'.cell? ⟨g, 2, none⟩ = w.cell? ⟨g, 2, none⟩
  fz : w'.frozen? ⟨g, 1, none⟩ = w.frozen? ⟨g, 1, none⟩
  is1 : (w.cell? ⟨g, 1, none⟩).isSome = true → (w'.cell? ⟨g, 1, none⟩).isSome = true
  size : w.heap.size ≤ w'.heap.size
  good : GoodC g F w → GoodC g F w'

theorem KR.refl (g : Nat) (F E : List Col) (w : World) : KR g F E w w := ⟨Below.refl _ _, fun _ _ _ h => h, rfl, rfl, rfl, fun h => h, Nat.le_refl _, fun h => h⟩
theorem KR.trans {g : Nat} {F E : List Col} (w1 w2 w3 : World) (h1 : KR g F E w1 w2) (h2 : KR g F E w2 w3) : KR g F E w1 w3 :=
  ⟨h1.low.trans h2.low, fun s l hk h => h2.own s l hk (h1.own s l hk h), h2.c0.trans h1.c0, h2.c2.trans h1.c2, h2.fz.trans h1.fz, fun h => h2.is1 (h1.is1 h), Nat.le_trans h1.size h2.size, fun h => h2.good (h1.good h)⟩

/-- Where the struct's own block stays, too. -/
theorem KR.of_below {g : Nat} {F E : List Col} {w w' : World} (h : Below (g + 1) w w') (ho : ∀ s l, PK F E l → OwnC (g + 1) w s l → OwnC (g + 1) w' s l) : KR g F E w w' := by
  have hc : ∀ o, w'.cell? ⟨g, o, none⟩ = w.cell? ⟨g, o, none⟩ := fun o => h.cell (p := ⟨g, o, none⟩) (Nat.lt_succ_self g)
  exact ⟨h.mono (Nat.le_succ g), ho, hc 0, hc 2, h.frozen (p := ⟨g, 1, none⟩) (Nat.lt_succ_self g), fun h1 => by rw [hc 1]; exact h1, h.size, fun ⟨s, h1, h2⟩ => ⟨s, by rw [hc 1]; exact h1, ho s F (PK.all F E) h2⟩⟩

theorem KR.alloc {g : Nat} {F E : List Col} {w : World} (hg : g < w.heap.size) (o : Obj) : KR g F E w (w.alloc o) :=
  KR.of_below ((Below.refl _ _).alloc hg _) fun _ _ _ h => World.ownsRow.alloc h o

theorem KR.append {g : Nat} {F E : List Col} {W : World} {s : Value} {l m : List Col} {a : Option Addr} {c n : Nat} (hg : g < W.heap.size) (ho : OwnC (g + 1) W s l) (hm : SlC W a c m) (hn : m.length = n) (hlen : l.length + m.length ≤ 1000000) (hw : ∀ x ∈ l, x.wf) (j : Nat) (hj : j ≤ F.length) (hF : l ++ m = F.take j)
    (hE : (∃ k, k ≤ F.length ∧ E = F.take k) ∨ E.length ≤ l.length ∨ ∃ h, s = .slice (some ⟨h, 0, none⟩) 0 0) :
    ∃ s' W', (Builtin.append_ #[30, 30] 30 #[s, .slice a n c]).run Try.prog W = .ok s' W' ∧ OwnC (g + 1) W' s' (F.take j) ∧ KR g F E W W' := by
  obtain ⟨s', W', h1, h2, h3, _, h5⟩ := app_col hg ho hm hlen hw
  rw [hn] at h1
  refine ⟨s', W', h1, hF ▸ h2, KR.of_below h3 fun s2 p hp h => h5 s2 p ?_ h⟩
  rcases hp with ⟨k, hk, rfl⟩ | rfl
  · exact .inl ⟨F, j, k, hj, hF, hk, rfl⟩
  · rcases hE with ⟨k, hk, rfl⟩ | hE
    · exact .inl ⟨F, j, k, hj, hF, hk, rfl⟩
    · exact .inr hE

/-- The store of the row into the struct's cell. -/
theorem KR.store {g : Nat} {F E : List Col} {w : World} {s : Value} (hg : g < w.heap.size) (h1 : (w.cell? ⟨g, 1, none⟩).isSome = true) (hs : OwnC (g + 1) w s F) : KR g F E w (w.setCell ⟨g, 1, none⟩ s) ∧ GoodC g F (w.setCell ⟨g, 1, none⟩ s) := by
  have hown : ∀ s2 l, OwnC (g + 1) w s2 l → OwnC (g + 1) (w.setCell ⟨g, 1, none⟩ s) s2 l := by
    intro s2 l h
    rcases h.2 with ⟨h2, h3⟩ | ⟨q, cap, cur, rfl, hbg, hq, hnc, hcm, hcs, hxs⟩
    · exact ⟨h.1, .inl ⟨h2, h3⟩⟩
    · refine ⟨h.1, .inr ⟨q, cap, cur, rfl, hbg, ?_, hnc, hcm, hcs, hxs⟩⟩
      have : q ≠ g := by omega
      simp [World.setCell, Array.getElem?_modify, Ne.symm this]
      exact hq
  have hcell : (w.setCell ⟨g, 1, none⟩ s).cell? ⟨g, 1, none⟩ = some s := by
    obtain ⟨u, hu⟩ := Option.isSome_iff_exists.1 h1
    go_simp
  have hgood : GoodC g F (w.setCell ⟨g, 1, none⟩ s) := ⟨s, hcell, hown s F hs⟩
  refine ⟨⟨(Below.refl g w).setCell (p := ⟨g, 1, none⟩) (by exact Nat.le_refl _) _, fun s2 l _ h => hown s2 l h, World.cell?_setCell_other _ _ _ _ (fun h => by injection h with _ h _; cases h), World.cell?_setCell_other _ _ _ _ (fun h => by injection h with _ h _; cases h), World.frozen?_setCell _ _ _ _, fun _ => by rw [hcell]; rfl, by simp [World.setCell], fun _ => hgood⟩, hgood⟩

/-- An empty literal slice of columns. -/
def NilC (base : Nat) (w : World) (v : Value) : Prop := (∃ h, v = .slice (some ⟨h, 0, none⟩) 0 0) ∧ OwnC base w v []
theorem NilC.new {base : Nat} (w : World) (hb : base ≤ w.heap.size) : NilC base (w.alloc (.cells #[] 49)) (.slice (some ⟨w.heap.size, 0, none⟩) 0 0) :=
  ⟨⟨_, rfl⟩, World.ownsRow_lit w #[] 0 hb (by decide) rfl⟩

theorem exec_append {P : Program} (a : Act) (w w' : World) (dst : Option Nat) (s x : Operand) (t ty : TypeId) (pos : String) (af : Array Edge) (gd : Option (Nat × Bool)) (v xv v' : Value) (hs : a.eval s = v) (hx : a.eval x = xv)
    (hrun : (Builtin.append_ #[t, t] ty #[v, xv]).run P w = .ok v' w') : (execOp a.eval ⟨dst, .call { callee := .builtin .append, args := #[s, x], argTypes := #[t, t] }, ty, pos, af, gd⟩).run P w = .ok (.value v') w' := by
  unfold execOp
  simp only [resolve, invoke, builtin, Sem.run_bind, Sem.run_pure, Result.andThen_ok, List.map_toArray, List.map_cons, List.map_nil, hs, hx, hrun]
end Go.Proofs.Ytkipnkbmpgjcoaa
