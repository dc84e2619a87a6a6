/-
  A lock in memory (stage 14): its block, its map, its queue; rows of requests.
-/
import Derived.Test.YtjjhmfpdbjflmaaPLib0
import Derived.Test.YtjjhmfpdbjflmaaPInv
namespace Go.Proofs.Ytjjhmfpdbjflmaa
open Go.RowKit
set_option linter.unusedVariables false

/-! ### Rows of requests -/

def rqC (p : Int × Int) : List Value := [.int .i64 p.1, .int .u8 p.2]
def RowP (W : World) (b n c : Nat) (E : Nat → Int × Int) : Prop := RowF 65 2 W (.slice (some ⟨b, 0, none⟩) n c) n (fun j => rqC (E j))
def RowQ (W : World) (s : Value) (l : PL) : Prop := RowF 65 2 W s l.length (fun j => rqC (l.getD j (0, 0)))

theorem RowQ.form {W : World} {s : Value} {l : PL} (h : RowQ W s l) : ∃ a c, s = .slice a l.length c ∧ l.length ≤ c ∧ c ≤ maxLen := RowF.form h
theorem RowQ.nil (W : World) : RowQ W (.slice none 0 0) [] := RowF.nil _ _ _ _
theorem RowP.lt {W : World} {b n c : Nat} {E : Nat → Int × Int} (h : RowP W b n c E) : b < W.heap.size := RowF.lt h b rfl
theorem RowP.at {W : World} {b n c : Nat} {E : Nat → Int × Int} (h : RowP W b n c E) {i : Nat} (hi : i < n) : W.cell? ⟨b, i * 2, none⟩ = some (.int .i64 (E i).1) ∧ W.cell? ⟨b, i * 2 + 1, none⟩ = some (.int .u8 (E i).2) ∧ W.frozen? ⟨b, i * 2, none⟩ = false ∧ W.frozen? ⟨b, i * 2 + 1, none⟩ = false := by
  obtain ⟨b', c', h1, h2, h3, h4, h5, h6⟩ := RowF.at h hi
  cases h1
  exact ⟨h5 i hi 0 _ rfl, h5 i hi 1 _ rfl, h6 _, h6 _⟩
theorem RowP.cap {W : World} {b n c : Nat} {E : Nat → Int × Int} (h : RowP W b n c E) : n ≤ c ∧ c ≤ maxLen := by
  obtain ⟨a, c', h1, h2, h3⟩ := RowF.form h
  cases h1
  exact ⟨h2, h3⟩
theorem RowP.below {W W' : World} {b n c : Nat} {E : Nat → Int × Int} (h : RowP W b n c E) (hb : Below W.heap.size W W') : RowP W' b n c E := RowF.below h hb
theorem RowP.cut {W : World} {b n c : Nat} {E : Nat → Int × Int} (h : RowP W b n c E) {k : Nat} (hk : k ≤ n) : RowP W b k c E := row_cut h hk

def updP (E : Nat → Int × Int) (i : Nat) (v : Int × Int) : Nat → Int × Int := fun t => if t = i then v else E t
/-- A request is written at place i of a block. -/
def putP (W : World) (b i : Nat) (v : Int × Int) : World := (W.setCell ⟨b, i * 2, none⟩ (.int .i64 v.1)).setCell ⟨b, i * 2 + 1, none⟩ (.int .u8 v.2)
theorem putP_touch (W : World) (b i : Nat) (v : Int × Int) : Touch (fun k => k = b) W (putP W b i v) :=
  (Touch.setCell W (F := fun k => k = b) rfl _ _).trans (Touch.setCell _ (F := fun k => k = b) rfl _ _) (fun _ _ h => h)
theorem RowP.put {W : World} {b n c : Nat} {E : Nat → Int × Int} (h : RowP W b n c E) {i : Nat} (hi : i < n) (v : Int × Int) : RowP (putP W b i v) b n c (updP E i v) := by
  refine RowF.congr (RowF.set (RowF.set h (j := i) (c := 0) (o := i * 2) rfl hi (by omega) (by omega) (.int .i64 v.1)) (j := i) (c := 1) (o := i * 2 + 1) rfl hi (by omega) (by omega) (.int .u8 v.2)) fun j hj => ?_
  unfold updR updP
  by_cases e : j = i
  · subst e
    simp [rqC]
  · simp [e]
/-- What lies behind a row may be written. -/
theorem RowF.out {e : TypeId} {m : Nat} {W : World} {b n c : Nat} {f : Nat → List Value} (h : RowF e m W (.slice (some ⟨b, 0, none⟩) n c) n f) {o : Nat} (ho : n * m ≤ o) (v : Value) : RowF e m (W.setCell ⟨b, o, none⟩ v) (.slice (some ⟨b, 0, none⟩) n c) n f := by
  obtain ⟨⟨xs, h1, h2⟩, h3⟩ := h
  have := (h1.stored o v).1
  rw [List.set_eq_of_length_le (by rw [h1.1]; exact ho)] at this
  exact ⟨⟨xs, this, h2⟩, h3⟩
theorem RowF.outs {e : TypeId} {m : Nat} {b n c : Nat} {f : Nat → List Value} : ∀ (vs : List Value) (o : Nat) {W : World}, n * m ≤ o → RowF e m W (.slice (some ⟨b, 0, none⟩) n c) n f → RowF e m (W.setCells b o vs) (.slice (some ⟨b, 0, none⟩) n c) n f ∧ Touch (fun k => k = b) W (W.setCells b o vs)
  | [], o, W, ho, h => ⟨h, Touch.refl _ _⟩
  | v :: r, o, W, ho, h => by
    rw [World.setCells]
    obtain ⟨h1, h2⟩ := RowF.outs r (o + 1) (by omega) (RowF.out h ho v)
    exact ⟨h1, (Touch.setCell W (F := fun k => k = b) rfl _ _).trans h2 (fun _ _ h => h)⟩
theorem RowQ.below {W W' : World} {s : Value} {l : PL} (h : RowQ W s l) (hb : Below W.heap.size W W') : RowQ W' s l := RowF.below h hb
theorem RowQ.stay {G : Nat → Prop} {W W' : World} {s : Value} {l : PL} (h : RowQ W s l) (hs : Stay G W W') (hG : ∀ k, s.ownBlock = some k → G k) : RowQ W' s l := RowF.stay h hs hG
theorem RowQ.lt {W : World} {s : Value} {l : PL} (h : RowQ W s l) : ∀ k, s.ownBlock = some k → k < W.heap.size := RowF.lt h
theorem RowQ.rowP {W : World} {b n c : Nat} {l : PL} (hn : l.length = n) (h : RowQ W (.slice (some ⟨b, 0, none⟩) n c) l) : RowP W b n c (fun j => l.getD j (0, 0)) := by
  subst hn
  exact h
theorem RowP.rowQ {W : World} {b n c : Nat} {E : Nat → Int × Int} (h : RowP W b n c E) {l : PL} (hl : (List.range n).map E = l) : RowQ W (.slice (some ⟨b, 0, none⟩) n c) l ∧ l.length = n := by
  subst hl
  have e : ((List.range n).map E).length = n := by simp
  refine ⟨?_, e⟩
  unfold RowQ
  rw [e]
  exact RowF.congr h fun j hj => by simp [hj]
/-- A place of the row. -/
theorem RowQ.at {W : World} {s : Value} {l : PL} (h : RowQ W s l) {i : Nat} {p : Int × Int} (hp : l[i]? = some p) : ∃ b c, s = .slice (some ⟨b, 0, none⟩) l.length c ∧ l.length ≤ c ∧ c ≤ maxLen ∧ b < W.heap.size ∧ W.cell? ⟨b, i * 2, none⟩ = some (.int .i64 p.1) ∧ W.cell? ⟨b, i * 2 + 1, none⟩ = some (.int .u8 p.2) := by
  obtain ⟨hi, e⟩ := List.getElem?_eq_some_iff.1 hp
  obtain ⟨b, c, h1, h2, h3, h4, h5, h6⟩ := RowF.at h hi
  have hg : l.getD i (0, 0) = p := by simp [hi, e]
  have := h5 i hi
  rw [hg] at this
  exact ⟨b, c, h1, h2, h3, h4, this 0 _ rfl, this 1 _ rfl⟩

/-! ### A lock -/

/-- What the map says. -/
def mapV (hd : PL) : Int → Option Value := fun x => if heldL hd x = 0 then none else some (.int .u16 (heldL hd x))
theorem mapV_get (hd : PL) (x : Int) : (mapV hd x).getD (.int .u16 0) = .int .u16 (heldL hd x) := by
  unfold mapV
  split
  · rename_i h; rw [h]; rfl
  · rfl

/-- At block h lies the lock A: its map at b, of at most n entries, its queue s. -/
structure LkM (W : World) (h b : Nat) (s : Value) (n : Nat) (A : Lk) : Prop where
  lit : Lit W h 58 [.int .u8 A.c, .map (some b), s]
  map : MapF W b n (mapV A.hd)
  row : RowQ W s A.wt
  ne : b ≠ h
  own : ∀ k, s.ownBlock = some k → k ≠ h ∧ k ≠ b

def LkF (h b : Nat) (s : Value) (k : Nat) : Prop := k = h ∨ k = b ∨ s.ownBlock = some k
section
variable {W W' : World} {h b n : Nat} {s : Value} {A : Lk}
theorem LkM.stay (H : LkM W h b s n A) (hs : Stay (LkF h b s) W W') : LkM W' h b s n A :=
  ⟨H.lit.stay hs (.inl rfl), H.map.stay hs (.inr (.inl rfl)), H.row.stay hs (fun k hk => .inr (.inr hk)), H.ne, H.own⟩
theorem LkM.below (H : LkM W h b s n A) (hb : Below W.heap.size W W') : LkM W' h b s n A := H.stay (Stay.of_below hb)
theorem LkM.lt (H : LkM W h b s n A) : ∀ k, LkF h b s k → k < W.heap.size := by
  rintro k (rfl | rfl | hk)
  · exact H.lit.lt
  · exact H.map.lt
  · exact H.row.lt k hk
theorem LkM.mono (H : LkM W h b s n A) {n' : Nat} (hn : n ≤ n') : LkM W h b s n' A := ⟨H.lit, H.map.mono hn, H.row, H.ne, H.own⟩
/-- The cells of it. -/
theorem LkM.cells (H : LkM W h b s n A) : W.cell? ⟨h, 0, none⟩ = some (.int .u8 A.c) ∧ W.cell? ⟨h, 1, none⟩ = some (.map (some b)) ∧ W.cell? ⟨h, 2, none⟩ = some s ∧ h < W.heap.size := ⟨H.lit.cell rfl, H.lit.cell rfl, H.lit.cell rfl, H.lit.lt⟩
end

theorem zeroU (w : World) : (zeroValue 45).run Try.prog w = .ok (.int .u16 0) w := by kernel_rfl
/-- m[x], of its map. -/
theorem LkM.look {W : World} {h b n : Nat} {s : Value} {A : Lk} (H : LkM W h b s n A) {x : Int} (hx : I64 x) : (Instr.lookup 55 (.map (some b)) (.int .i64 x) false).run Try.prog W = .ok (.int .u16 (heldL A.hd x)) W := by
  have := H.map.look (t := 55) (e := 45) Try.underlying55 (zeroU W) hx
  rwa [mapV_get] at this

/-! ### By whom a request is -/

set_option maxRecDepth 100000 in
theorem by_is (x : Int) (w : World) : Calls Try.prog 33 #[.int .i64 x] w fun e w' => e = .returned (.func (.func 56) #[] #[.pointer (some ⟨w.heap.size, 0, none⟩)]) ∧ Lit w' w.heap.size 3 [.int .i64 x] ∧ Below w.heap.size w w' := by
  have h1 := Lit.new w 3 [.int .i64 x]
  have h2 := Below.allocs w (.cells #[.int .i64 x] 3)
  have HE := Lib.hid (And.intro h1 h2)
  clear h1 h2
  go_enter Try.func33, Try.ntmps33
  go_wp2_with fail
  go_ret
  exact ⟨rfl, HE.out⟩

set_option maxRecDepth 100000 in
theorem by1_is (p : Int × Int) (x : Int) (g : Nat) (b : Bool) (hb : (p.1 == x) = b) (w : World) (h : Lit w g 3 [.int .i64 x]) : Calls Try.prog 56 #[.agg #[.int .i64 p.1, .int .u8 p.2], .pointer (some ⟨g, 0, none⟩)] w fun e w' => e = .returned (.bool b) ∧ Below w.heap.size w w' := by
  have c0 := h.cell (o := 0) rfl
  have cl := h.lt
  obtain ⟨y, m⟩ := p
  have hb : (y == x) = b := hb
  have HB := Lib.hid (Below.allocs w (.cells #[.int .i64 y, .int .u8 m] 65))
  clear h
  go_enter Try.func56, Try.ntmps56
  go_wp2_with fail
  go_ret
  exact ⟨rfl, HB.out⟩

/-- Where somebody stands; -1: nowhere. -/
def placeI (l : PL) (x : Int) : Int := if x ∈ fsts l then (idxL l x : Int) else -1
theorem place_at {l : PL} {x : Int} {i : Nat} {p : Int × Int} (hp : l[i]? = some p) (hx : p.1 = x) (h : ∀ j : Nat, j < i → ∀ q, l[j]? = some q → q.1 ≠ x) : placeI l x = i := by
  have hin : x ∈ fsts l := by rw [← hx]; exact fst_mem (List.mem_of_getElem? hp)
  obtain ⟨h1, h2, h3⟩ := idx_in hin
  unfold placeI
  rw [if_pos hin]
  have : idxL l x = i := by
    rcases Nat.lt_trichotomy (idxL l x) i with hlt | e | hlt
    · exact (h _ hlt _ h2 rfl).elim
    · exact e
    · exact (h3 i hlt p hp hx).elim
  rw [this]
theorem place_no {l : PL} {x : Int} (h : ∀ (j : Nat) (q : Int × Int), l[j]? = some q → q.1 ≠ x) : placeI l x = -1 := by
  unfold placeI
  rw [if_neg]
  intro hin
  obtain ⟨p, hp, rfl⟩ := List.mem_map.1 hin
  obtain ⟨i, hi⟩ := List.getElem?_of_mem hp
  exact h i p hi rfl

set_option maxRecDepth 100000 in
set_option maxHeartbeats 4000000 in
theorem indexQ_ex (a : Option Addr) (n c : Nat) (l : PL) (hln : l.length = n) (x : Int) (g : Nat) (w : World) (hn : n ≤ 100000) (h : RowQ w (.slice a n c) l) (hg : Lit w g 3 [.int .i64 x]) (r : Int) (hr : placeI l x = r) :
    Calls Try.prog 55 #[.slice a n c, .func (.func 56) #[] #[.pointer (some ⟨g, 0, none⟩)]] w fun e w' => e = .returned (.int .i64 r) ∧ Below w.heap.size w w' := by
  have HR := Lib.hid h
  have HP := Lib.hid hg
  have HL := Lib.hid hln
  have HQ := Lib.hid hr
  clear h hg hln hr
  go_enter Try.func55, Try.ntmps55
  go_wp2_with fail
  go_loopg [5, 8] n (fun gg s5 s8 wr => ∃ (i : Nat), s8 = .int .i64 i ∧ i ≤ n ∧ n - i ≤ gg ∧ Hid (Below w.heap.size w wr) ∧ Hid (∀ j : Nat, j < i → ∀ q, l[j]? = some q → q.1 ≠ x))
  case atStart => exact ⟨0, rfl, Nat.zero_le _, by omega, Lib.hid (Below.refl _ _), Lib.hid (fun j hj => by omega)⟩
  case round =>
    obtain ⟨i, rfl, hi, hgg, HB, HN⟩ := hrel
    by_cases hlt : i < n
    · have hltz : (i : Int) < (n : Int) := by omega
      obtain ⟨p, hp⟩ : ∃ p, l[i]? = some p := ⟨_, List.getElem?_eq_getElem (by rw [HL.out]; exact hlt)⟩
      obtain ⟨b, c', e1, -, -, hbl, c0, c1⟩ := (HR.out.below HB.out).at hp
      have ea : a = some ⟨b, 0, none⟩ := by
        simp only [Value.slice.injEq] at e1
        exact e1.1
      subst ea
      clear e1
      obtain ⟨q, hq⟩ : ∃ q, (p.1 == x) = q := ⟨_, rfl⟩
      have HC := Lib.hid (by1_is p x g q hq wr (HP.out.below HB.out))
      have HLT := Lib.hid (And.intro hlt (And.intro hi hgg))
      have HPP := Lib.hid hp
      have HQQ := Lib.hid hq
      clear hp hq hi hgg
      go_wp2_with fail
      refine HC.out.mono ?_
      rintro e w2 ⟨rfl, hb2⟩
      have HB2 := Lib.hid (below_tr HB.out hb2)
      clear hb2 HC c0 c1
      cases q with
      | true =>
        go_wp2_with fail
        go_ret
        have e9 := HQ.out
        rw [place_at HPP.out (by simpa using HQQ.out) HN.out] at e9
        subst e9
        exact ⟨rfl, HB2.out⟩
      | false =>
        go_wp2_with fail
        go_roundg (n - (i + 1))
        case measure => have := HLT.out; omega
        case rel => exact ⟨i + 1, by go_num, by have := HLT.out; omega, Nat.le_refl _, HB2, Lib.hid (fun j hj q hq => by
          by_cases e : j = i
          · subst e
            rw [HPP.out] at hq
            cases hq
            simpa using HQQ.out
          · exact HN.out j (by omega) q hq)⟩
    · have hltz : ¬ (i : Int) < (n : Int) := by omega
      have hni : i = n := by omega
      subst hni
      go_wp2_with fail
      go_ret
      have e9 := HQ.out
      rw [place_no fun j q hq => HN.out j (by have := (List.getElem?_eq_some_iff.1 hq).1; rw [HL.out] at this; exact this) q hq] at e9
      subst e9
      exact ⟨rfl, HB.out⟩

theorem indexQ_is (s : Value) (l : PL) (x : Int) (g : Nat) (w : World) (hn : l.length ≤ 100000) (h : RowQ w s l) (hg : Lit w g 3 [.int .i64 x]) (r : Int) (hr : placeI l x = r) :
    Calls Try.prog 55 #[s, .func (.func 56) #[] #[.pointer (some ⟨g, 0, none⟩)]] w fun e w' => e = .returned (.int .i64 r) ∧ Below w.heap.size w w' := by
  obtain ⟨a, c, rfl, hnc, hcm⟩ := h.form
  exact indexQ_ex a l.length c l rfl x g w hn h hg r hr

end Go.Proofs.Ytjjhmfpdbjflmaa
