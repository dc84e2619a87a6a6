/-
  The calls of package value, and of the document's own, at values; columns in memory.
-/
import Derived.Test.YtenpjfkiehcjlaaGreatDoorKEq
import Derived.Test.YtenpjfkiehcjlaaGreatDoorWMath
import Derived.Test.YtenpjfkiehcjlaaGreatDoorVRText
import Derived.Test.YtenpjfkiehcjlaaGreatDoorKRT
namespace Go.Proofs.YtenpjfkiehcjlaaGreatDoor
open Go.RowKit

theorem may_v (x : Val) (b : Bool) (h : mayV x = b) (w : World) : Calls Tryz.prog 57 #[.agg #[.int .u8 x.k, .int .i64 x.n, .int .i64 x.u, .string x.t]] w fun e w' => e = .returned (.bool b) ∧ Below w.heap.size w w' := may_is _ _ _ _ w b h
theorem rmay_v (x : Val) (b : Bool) (h : mayV x = b) (w : World) : Calls Tryz.prog 43 #[.agg #[.int .u8 x.k, .int .i64 x.n, .int .i64 x.u, .string x.t]] w fun e w' => e = .returned (.bool b) ∧ Below w.heap.size w w' := rmay_is _ _ _ _ w b h
theorem text_v (x : Val) (hx : x.wf) (p : ByteArray) (h : txV x = p.data.toList) (w : World) (hg : GoodT w) : Calls Tryz.prog 41 #[.agg #[.int .u8 x.k, .int .i64 x.n, .int .i64 x.u, .string x.t]] w fun e w' => e = .returned (.string p) ∧ Below w.heap.size w w' :=
  (text_any x.k x.n x.u hx.n.1 hx.n.2 hx.u.1 hx.u.2 x.t w hg).mono fun _ _ hq => by
    rw [show textL x.k x.n x.u x.t.data.toList = _ from h, ba_eta] at hq
    exact hq

theorem rtext_v (x : Val) (hx : x.wf) (p : ByteArray) (h : txV x = p.data.toList) (w : World) : Calls Tryz.prog 44 #[.agg #[.int .u8 x.k, .int .i64 x.n, .int .i64 x.u, .string x.t]] w fun e w' => e = .returned (.string p) ∧ Below w.heap.size w w' :=
  rtext_is x.k x.n x.u hx.n hx.u x.t p h w

theorem paV_some {p : List UInt8} {v : Val} (h : parV p = some v) : paV (parseR p) = .tuple #[.agg #[.int .u8 v.k, .int .i64 v.n, .int .i64 v.u, .string v.t], .int .i64 0] := by
  rw [(parV_some h).2.2]
  simp [paV]

theorem paV_none {p : List UInt8} (h : parV p = none) : paV (parseR p) = .tuple #[.agg #[.int .u8 0, .int .i64 0, .int .i64 0, .string ⟨#[]⟩], .int .i64 4] := by
  rw [parV_none h]
  simp [paV]

/-! ### Columns -/

structure Col where
  nm : ByteArray
  ty : Int
  k : Int
  n : Int
  u : Int
  t : ByteArray

def AtC (W : World) (b o : Nat) (c : Col) : Prop :=
  W.cell? ⟨b, o, none⟩ = some (.string c.nm) ∧ W.cell? ⟨b, o + 1, none⟩ = some (.int .u8 c.ty) ∧ W.cell? ⟨b, o + 2, none⟩ = some (.int .u8 c.k) ∧ W.cell? ⟨b, o + 3, none⟩ = some (.int .i64 c.n) ∧ W.cell? ⟨b, o + 4, none⟩ = some (.int .i64 c.u) ∧ W.cell? ⟨b, o + 5, none⟩ = some (.string c.t) ∧ b < W.heap.size

theorem AtC.below {W W' : World} {b o : Nat} {c : Col} (h : AtC W b o c) (hb : Below W.heap.size W W') : AtC W' b o c := by
  obtain ⟨h0, h1, h2, h3, h4, h5, h7⟩ := h
  exact ⟨by rw [hb.cell h7]; exact h0, by rw [hb.cell h7]; exact h1, by rw [hb.cell h7]; exact h2, by rw [hb.cell h7]; exact h3, by rw [hb.cell h7]; exact h4, by rw [hb.cell h7]; exact h5, Nat.lt_of_lt_of_le h7 hb.size⟩

def LstC (W : World) (b o : Nat) (l : List Col) : Prop := ∀ i x, l[i]? = some x → AtC W b (o + i * 6) x

/-- A slice of the columns l. -/
structure SlC (W : World) (a : Option Addr) (c : Nat) (l : List Col) : Prop where
  lc : l.length ≤ c
  cm : c ≤ maxLen
  at' : l ≠ [] → ∃ b o, a = some ⟨b, o, none⟩ ∧ LstC W b o l

theorem SlC.below {W W' : World} {a : Option Addr} {c : Nat} {l : List Col} (h : SlC W a c l) (hb : Below W.heap.size W W') : SlC W' a c l :=
  ⟨h.lc, h.cm, fun hl => by obtain ⟨b, o, e, hx⟩ := h.at' hl; exact ⟨b, o, e, fun i x hi => (hx i x hi).below hb⟩⟩

theorem at_c {W : World} {a : Option Addr} {c : Nat} {l : List Col} (h : SlC W a c l) {i : Nat} {x : Col} (hx : l[i]? = some x) : ∃ b o, a = some ⟨b, o, none⟩ ∧ AtC W b (o + i * 6) x := by
  obtain ⟨b, o, e, hl⟩ := h.at' (by rintro rfl; simp at hx)
  exact ⟨b, o, e, hl i x hx⟩

def tys (l : List Col) : List Int := l.map (·.ty)

theorem tys_get {l : List Col} {i : Nat} {x : Col} (hx : l[i]? = some x) : (tys l)[i]? = some x.ty := by simp [tys, hx]
theorem tys_len (l : List Col) : (tys l).length = l.length := by simp [tys]


end Go.Proofs.YtenpjfkiehcjlaaGreatDoor
