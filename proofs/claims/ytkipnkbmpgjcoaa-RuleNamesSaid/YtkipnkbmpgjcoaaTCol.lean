/-
  Columns in memory, and what package slices finds among them (stage 8).
-/
import Derived.Test.YtkipnkbmpgjcoaaEBase
import Derived.Test.YtkipnkbmpgjcoaaTName
import Derived.Deep.LoopGhost
namespace Go.Proofs.Ytkipnkbmpgjcoaa
open Go.RowKit

/-- A block with these cells. -/
structure Blk (W : World) (g : Nat) (cs : List Value) : Prop where
  lt : g < W.heap.size
  get : ∀ i v, cs[i]? = some v → W.cell? ⟨g, i, none⟩ = some v

theorem Blk.below {W W' : World} {g : Nat} {cs : List Value} (h : Blk W g cs) (hb : Below W.heap.size W W') : Blk W' g cs :=
  ⟨Nat.lt_of_lt_of_le h.lt hb.size, fun i v hv => by rw [hb.cell h.lt]; exact h.get i v hv⟩

theorem Blk.new (w : World) (cs : List Value) (t : TypeId) : Blk (w.alloc (.cells cs.toArray t)) w.heap.size cs := by
  refine ⟨by simp, fun i v hv => ?_⟩
  rw [World.cell?_alloc_at _ _ _ _ (by simp)]
  simpa using hv

/-- An api.Column. -/
structure Col where
  nm : ByteArray
  ty : Int
  v : Val

def AtC (W : World) (b o : Nat) (c : Col) : Prop :=
  W.cell? ⟨b, o, none⟩ = some (.string c.nm) ∧ W.cell? ⟨b, o + 1, none⟩ = some (.int .u8 c.ty) ∧ W.cell? ⟨b, o + 2, none⟩ = some (.int .u8 c.v.k) ∧ W.cell? ⟨b, o + 3, none⟩ = some (.int .i64 c.v.n) ∧ W.cell? ⟨b, o + 4, none⟩ = some (.int .i64 c.v.u) ∧ W.cell? ⟨b, o + 5, none⟩ = some (.string c.v.t) ∧ b < W.heap.size

theorem AtC.below {W W' : World} {b o : Nat} {c : Col} (h : AtC W b o c) (hb : Below W.heap.size W W') : AtC W' b o c := by
  obtain ⟨h0, h1, h2, h3, h4, h5, h7⟩ := h
  exact ⟨by rw [hb.cell h7]; exact h0, by rw [hb.cell h7]; exact h1, by rw [hb.cell h7]; exact h2, by rw [hb.cell h7]; exact h3, by rw [hb.cell h7]; exact h4, by rw [hb.cell h7]; exact h5, Nat.lt_of_lt_of_le h7 hb.size⟩

def LstC (W : World) (b o : Nat) (l : List Col) : Prop := ∀ i x, l[i]? = some x → AtC W b (o + i * 6) x

/-- What the kinds of the fields ask. -/
structure Col.wf (c : Col) : Prop where
  t0 : 0 ≤ c.ty
  t1 : c.ty ≤ 255
  v : c.v.wf
  s : c.nm.size ≤ 9223372036854775807

/-- A slice of the columns l. -/
structure SlC (W : World) (a : Option Addr) (c : Nat) (l : List Col) : Prop where
  lc : l.length ≤ c
  cm : c ≤ maxLen
  at' : l ≠ [] → ∃ b o, a = some ⟨b, o, none⟩ ∧ LstC W b o l
  wf : ∀ x ∈ l, x.wf

theorem SlC.below {W W' : World} {a : Option Addr} {c : Nat} {l : List Col} (h : SlC W a c l) (hb : Below W.heap.size W W') : SlC W' a c l :=
  ⟨h.lc, h.cm, fun hl => by obtain ⟨b, o, e, hx⟩ := h.at' hl; exact ⟨b, o, e, fun i x hi => (hx i x hi).below hb⟩, h.wf⟩

theorem SlC.nil (W : World) (a : Option Addr) (c : Nat) (hc : c ≤ maxLen) : SlC W a c [] := ⟨Nat.zero_le _, hc, fun h => absurd rfl h, fun _ h => absurd h (List.not_mem_nil)⟩

theorem at_c {W : World} {a : Option Addr} {c : Nat} {l : List Col} (h : SlC W a c l) {i : Nat} {x : Col} (hx : l[i]? = some x) : ∃ b o, a = some ⟨b, o, none⟩ ∧ AtC W b (o + i * 6) x := by
  obtain ⟨b, o, e, hl⟩ := h.at' (by rintro rfl; simp at hx)
  exact ⟨b, o, e, hl i x hx⟩

theorem getC {l : List Col} {i : Nat} (hi : i < l.length) : ∃ x, l[i]? = some x := ⟨l[i], by simp [hi]⟩

/-- What is cut off behind k of a slice (l[:k]). -/
theorem SlC.take {W : World} {a : Option Addr} {c : Nat} {l : List Col} (h : SlC W a c l) (k : Nat) : SlC W a c (l.take k) := by
  refine ⟨Nat.le_trans (by simp only [List.length_take]; omega) h.lc, h.cm, fun hl => ?_, fun x hx => h.wf x (List.mem_of_mem_take hx)⟩
  obtain ⟨b, o, e, hx⟩ := h.at' (by rintro rfl; simp at hl)
  refine ⟨b, o, e, fun i x hi => hx i x ?_⟩
  rw [List.getElem?_take] at hi
  split at hi
  · exact hi
  · cases hi

/-- What a closure answers for a column, in whatever world to come. -/
structure PredC (W : World) (f : FuncId) (cap : Array Value) (p : Col → Bool) : Prop where
  enter : ∀ args w, (callFunc f args).run Try.prog w = .ok (.enter f args) w
  calls : ∀ W', Below W.heap.size W W' → ∀ x : Col, Calls Try.prog f (#[.agg #[.string x.nm, .int .u8 x.ty, .int .u8 x.v.k, .int .i64 x.v.n, .int .i64 x.v.u, .string x.v.t]] ++ cap) W' fun e w' => e = .returned (.bool (p x)) ∧ Below W'.heap.size W' w'

theorem PredC.below {W W1 : World} {f : FuncId} {cap : Array Value} {p : Col → Bool} (h : PredC W f cap p) (hb : Below W.heap.size W W1) : PredC W1 f cap p :=
  ⟨h.enter, fun W' hb' x => h.calls W' (below_tr hb hb') x⟩

theorem any_take_no {p : Col → Bool} {l : List Col} {k : Nat} {x : Col} (h : (l.take k).any p = false) (hx : l[k]? = some x) (hp : p x = false) : (l.take (k + 1)).any p = false := by
  rw [List.take_add_one, hx]
  simp [h, hp]

theorem any_at {p : Col → Bool} {l : List Col} {k : Nat} {x : Col} (hx : l[k]? = some x) (hp : p x = true) : l.any p = true :=
  List.any_eq_true.2 ⟨x, List.mem_of_getElem? hx, hp⟩

set_option maxHeartbeats 1000000 in
theorem index_cols (f : FuncId) (cap : Array Value) (p : Col → Bool) (a : Option Addr) (c n : Nat) (l : List Col) (hn : l.length = n) (w : World) (h : SlC w a c l) (hp : PredC w f cap p) :
    Calls Try.prog 49 #[.slice a n c, .func (.func f) #[] cap] w fun e w' => (∃ k : Int, e = .returned (.int .i64 k) ∧ decide (0 ≤ k) = l.any p) ∧ Below w.heap.size w w' := by
  have HN := Lib.hid hn
  have HS := Lib.hid h
  have HP := Lib.hid hp
  clear hn h hp
  go_enter Try.func49, Try.ntmps49
  go_wp2_with fail
  go_loopg [8] n (fun gk i wr => ∃ k : Nat, k ≤ n ∧ gk = n - k ∧ i = .int .i64 k ∧ Hid ((l.take k).any p = false) ∧ Hid (Below w.heap.size w wr))
  case atStart => exact ⟨0, Nat.zero_le _, by omega, rfl, Lib.hid (by simp), Lib.hid (Below.refl _ _)⟩
  case round =>
    obtain ⟨k, hk, hgk, rfl, HA, HB⟩ := hrel
    have HG := Lib.hid hgk
    clear hgk
    by_cases hlt : k < n
    · obtain ⟨x, hx⟩ := getC (l := l) (i := k) (by rw [HN.out]; exact hlt)
      obtain ⟨b, o, rfl, hat⟩ := at_c (HS.out.below HB.out) hx
      have hm : n ≤ 9223372036854775807 := by have := HS.out.lc; have := HS.out.cm; unfold maxLen at this; have := HN.out; omega
      obtain ⟨q, hq⟩ : ∃ q, p x = q := ⟨_, rfl⟩
      have HX := Lib.hid (And.intro hx hq)
      have hcon := HP.out.calls wr HB.out x
      rw [hq] at hcon
      have hen := HP.out.enter
      clear hx hq
      obtain ⟨c0, c1, c2, c3, c4, c5, c6⟩ := hat
      go_wp2_with fail
      refine hcon.mono ?_
      rintro e w1 ⟨rfl, hb1⟩
      have HB1 := Lib.hid (below_tr HB.out hb1)
      clear hcon hb1 c0 c1 c2 c3 c4 c5 c6
      cases q
      · go_wp2_with fail
        go_roundg (n - (k + 1))
        case measure => have := HG.out; omega
        case rel => exact ⟨k + 1, by omega, rfl, by go_num, Lib.hid (any_take_no HA.out HX.out.1 HX.out.2), HB1⟩
      · go_wp2_with fail
        go_ret
        exact ⟨⟨k, rfl, by rw [any_at HX.out.1 HX.out.2]; simp⟩, HB1.out⟩
    · have hlt' : decide (k < n) = false := by simpa using hlt
      have HK : Hid (k = n) := Lib.hid (by omega)
      go_wp2_with fail
      go_ret
      refine ⟨⟨-1, rfl, ?_⟩, HB.out⟩
      have := HA.out
      rw [HK.out, ← HN.out, List.take_length] at this
      rw [this]
      rfl

theorem contains_cols (f : FuncId) (cap : Array Value) (p : Col → Bool) (a : Option Addr) (c n : Nat) (l : List Col) (hn : l.length = n) (w : World) (h : SlC w a c l) (hp : PredC w f cap p) (b : Bool) (hb : l.any p = b) :
    Calls Try.prog 30 #[.slice a n c, .func (.func f) #[] cap] w fun e w' => e = .returned (.bool b) ∧ Below w.heap.size w w' := by
  have hcon := index_cols f cap p a c n l hn w h hp
  have HB := Lib.hid hb
  clear hb
  go_enter Try.func30, Try.ntmps30
  go_wp2_with fail
  refine hcon.mono ?_
  rintro e w1 ⟨⟨k, rfl, hk⟩, hb1⟩
  rw [HB.out] at hk
  have HB1 := Lib.hid hb1
  clear hcon hb1
  go_wp2_with fail
  go_ret
  exact ⟨by first | rfl | (rw [← hk]), HB1.out⟩

/-- Is a column invalid? -/
def fitsVB (x : Val) (t : Int) : Bool := fitsB x.k x.n x.u x.t.data.toList t
def badC (x : Col) : Bool := !(nameB x.nm) || !(fitsVB x.v x.ty)

set_option maxHeartbeats 1000000 in
theorem invalid_is (W : World) : PredC W 28 #[] badC := by
  refine ⟨fun args w => by go_simp, fun W' _ x => ?_⟩
  show Calls Try.prog 28 #[.agg #[.string x.nm, .int .u8 x.ty, .int .u8 x.v.k, .int .i64 x.v.n, .int .i64 x.v.u, .string x.v.t]] W' _
  obtain ⟨nb, hnb⟩ : ∃ nb, nameB x.nm = nb := ⟨_, rfl⟩
  obtain ⟨fb, hfb⟩ : ∃ fb, fitsVB x.v x.ty = fb := ⟨_, rfl⟩
  obtain ⟨q, hq⟩ : ∃ q, badC x = q := ⟨_, rfl⟩
  have HN := Lib.hid hnb
  have HF := Lib.hid hfb
  rw [hq]
  unfold badC at hq
  rw [hnb, hfb] at hq
  clear hnb hfb
  cases nb
  · obtain rfl : q = true := by rw [← hq]; rfl
    go_enter Try.func28, Try.ntmps28
    go_wp2_with fail
    refine (name_is _ false HN.out _).mono ?_
    rintro e w1 ⟨rfl, rfl⟩
    go_wp2_with fail
    go_ret
    exact ⟨rfl, Below.allocs _ _⟩
  · obtain rfl : (!fb) = q := by rw [← hq]; rfl
    clear hq
    go_enter Try.func28, Try.ntmps28
    go_wp2_with fail
    refine (name_is _ true HN.out _).mono ?_
    rintro e w1 ⟨rfl, rfl⟩
    go_wp2_with fail
    refine (fits_is _ _ _ _ _ fb HF.out _).mono ?_
    rintro e w1 ⟨rfl, hb1⟩
    have HB1 := Lib.hid (below_tr (Below.allocs _ _) hb1)
    clear hb1
    go_wp2_with fail
    go_ret
    exact ⟨rfl, HB1.out⟩

set_option maxHeartbeats 1000000 in
theorem twin_is (W : World) (g : Nat) (y : Col) (hy : AtC W g 0 y) : PredC W 50 #[.pointer (some ⟨g, 0, none⟩)] (fun x => x.nm.toList == y.nm.toList) := by
  refine ⟨fun args w => by go_simp, fun W' hb x => ?_⟩
  show Calls Try.prog 50 #[.agg #[.string x.nm, .int .u8 x.ty, .int .u8 x.v.k, .int .i64 x.v.n, .int .i64 x.v.u, .string x.v.t], .pointer (some ⟨g, 0, none⟩)] W' _
  have hy' := (hy.below hb).below (Below.allocs W' (.cells #[.string x.nm, .int .u8 x.ty, .int .u8 x.v.k, .int .i64 x.v.n, .int .i64 x.v.u, .string x.v.t] 49))
  obtain ⟨c0, c1, c2, c3, c4, c5, c6⟩ := hy'
  clear hy
  go_enter Try.func50, Try.ntmps50
  go_wp2_with fail
  go_ret
  exact ⟨rfl, Below.allocs _ _⟩
end Go.Proofs.Ytkipnkbmpgjcoaa
