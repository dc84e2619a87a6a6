/-
  expr.valid: is an expression valid, and each column that it names one that there is?
-/
import Derived.Test.YtkipnkbmpgjcoaaEForm
import Derived.Deep.LoopGhost
namespace Go.Proofs.Ytkipnkbmpgjcoaa
open Go.RowKit

theorem formed_is (e : Ex) (f : FuncId) (cap : Array Value) (has : Int → Bool) (w : World) (hm : I64 e.m) (hh : HasC w f cap has) (b : Bool) (hb : formedB mayV has e = b) :
    Calls Try.prog 93 #[.agg #[.int .u8 e.op, .int .u8 e.v.k, .int .i64 e.v.n, .int .i64 e.v.u, .string e.v.t, .int .i64 e.m, .slice e.a e.len e.cap], .func (.func f) #[] cap] w fun x w' => x = .returned (.bool b) ∧ Below w.heap.size w w' := by
  unfold formedB at hb
  by_cases hl : (e.len : Int) = (arity e.op : Int)
  · have hl' : e.len = arity e.op := by omega
    rw [show decide (e.len = arity e.op) = true by simpa using hl', Bool.true_and] at hb
    by_cases o1 : e.op = 1
    · rw [if_pos o1] at hb
      by_cases m0 : e.m = 0
      · exact formed_lit e f cap w hl o1 m0 b (by rw [← hb]; simp [m0])
      · obtain rfl : b = false := by rw [← hb]; simp [m0]
        exact formed_lit_m e f cap w hl o1 m0
    · rw [if_neg o1] at hb
      by_cases o2 : e.op = 2
      · rw [if_pos o2] at hb
        cases hz : zeroB e.v
        · obtain rfl : b = false := by rw [← hb, hz]; rfl
          exact formed_col_z e f cap w hl o2 hz
        · exact formed_col e f cap w hl o2 hz has hm hh b (by rw [← hb, hz]; rfl)
      · rw [if_neg o2] at hb
        by_cases l0 : 0 < e.len
        · by_cases m0 : e.m = 0
          · cases hz : zeroB e.v
            · obtain rfl : b = false := by rw [← hb, hz]; simp
              exact formed_z e f cap w hl o1 o2 l0 m0 hz
            · obtain rfl : b = true := by rw [← hb, hz]; simp [l0, m0]
              exact formed_op e f cap w hl o1 o2 l0 m0 hz
          · obtain rfl : b = false := by rw [← hb]; simp [m0]
            exact formed_m e f cap w hl o1 o2 l0 m0
        · obtain rfl : b = false := by rw [← hb]; simp [l0]
          exact formed_none e f cap w hl o1 o2 (by omega)
  · have hl' : e.len ≠ arity e.op := fun h => hl (by rw [h])
    obtain rfl : b = false := by rw [← hb]; simp [hl']
    exact formed_arity e f cap w hl

/-- All blocks but one are as they were. -/
structure But (g : Nat) (W W' : World) : Prop where
  os : W'.os = W.os
  tape : W'.tape = W.tape
  output : W'.output = W.output
  size : W.heap.size ≤ W'.heap.size
  block : ∀ k, k < W.heap.size → k ≠ g → W'.heap[k]? = W.heap[k]?

theorem But.trans {g : Nat} {a b c : World} (h : But g a b) (k : But g b c) : But g a c :=
  ⟨k.os.trans h.os, k.tape.trans h.tape, k.output.trans h.output, Nat.le_trans h.size k.size, fun i hi hg => (k.block i (Nat.lt_of_lt_of_le hi h.size) hg).trans (h.block i hi hg)⟩
theorem But.of {g : Nat} {a b : World} (h : Below a.heap.size a b) : But g a b := ⟨h.os, h.tape, h.output, h.size, fun i hi _ => h.block i hi⟩
theorem But.set {g : Nat} (a : World) (v : Value) : But g a (a.setCell ⟨g, 0, none⟩ v) :=
  ⟨rfl, rfl, rfl, by simp [World.setCell], fun k _ hk => Below.heap_setCell _ _ _ _ hk⟩
theorem But.below {g B : Nat} {a b : World} (h : But g a b) (hB : B ≤ g) (hs : B ≤ a.heap.size) : Below B a b := ⟨h.os, h.tape, h.output, h.size, fun i hi => h.block i (by omega) (by omega)⟩
theorem But.cell {g : Nat} {a b : World} (h : But g a b) {k o : Nat} (hk : k < a.heap.size) (hg : k ≠ g) : b.cell? ⟨k, o, none⟩ = a.cell? ⟨k, o, none⟩ := World.cell?_of_block (w := a) (h.block k hk hg)
theorem But.frozen {g : Nat} {a b : World} (h : But g a b) {k o : Nat} (hk : k < a.heap.size) (hg : k ≠ g) : b.frozen? ⟨k, o, none⟩ = a.frozen? ⟨k, o, none⟩ := World.frozen?_of_block (w := a) (h.block k hk hg)

theorem BoxE.but {W W' : World} {g b : Nat} {e : Ex} (h : BoxE W b e) (hb : But g W W') (hg : b ≠ g) : BoxE W' b e := by
  obtain ⟨h0, h1, h2, h3, h4, h5, h6, h7⟩ := h
  exact ⟨by rw [hb.cell h7 hg]; exact h0, by rw [hb.cell h7 hg]; exact h1, by rw [hb.cell h7 hg]; exact h2, by rw [hb.cell h7 hg]; exact h3, by rw [hb.cell h7 hg]; exact h4, by rw [hb.cell h7 hg]; exact h5, by rw [hb.cell h7 hg]; exact h6, Nat.lt_of_lt_of_le h7 hb.size⟩

/-- What the closure's captured variables hold: the count, the check of a column, the closure itself. -/
structure St (W : World) (gs gh gm : Nat) (c : Int) (f : FuncId) (cap : Array Value) : Prop where
  cs : W.cell? ⟨gs, 0, none⟩ = some (.int .i64 c)
  fs : W.frozen? ⟨gs, 0, none⟩ = false
  ch : W.cell? ⟨gh, 0, none⟩ = some (.func (.func f) #[] cap)
  cm : W.cell? ⟨gm, 0, none⟩ = some (.func (.func 92) #[] #[.pointer (some ⟨gs, 0, none⟩), .pointer (some ⟨gh, 0, none⟩), .pointer (some ⟨gm, 0, none⟩)])
  ls : gs < W.heap.size
  lh : gh < W.heap.size
  lm : gm < W.heap.size
  hs : gh ≠ gs
  ms : gm ≠ gs

theorem St.below {W W' : World} {gs gh gm : Nat} {c : Int} {f : FuncId} {cap : Array Value} (h : St W gs gh gm c f cap) (hb : Below W.heap.size W W') : St W' gs gh gm c f cap :=
  ⟨by rw [hb.cell h.ls]; exact h.cs, by rw [hb.frozen h.ls]; exact h.fs, by rw [hb.cell h.lh]; exact h.ch, by rw [hb.cell h.lm]; exact h.cm, Nat.lt_of_lt_of_le h.ls hb.size, Nat.lt_of_lt_of_le h.lh hb.size, Nat.lt_of_lt_of_le h.lm hb.size, h.hs, h.ms⟩

theorem St.set {W : World} {gs gh gm : Nat} {c : Int} {f : FuncId} {cap : Array Value} (h : St W gs gh gm c f cap) (c' : Int) : St (W.setCell ⟨gs, 0, none⟩ (.int .i64 c')) gs gh gm c' f cap := by
  have hb := But.set (g := gs) W (.int .i64 c')
  have h1 := h.cs
  have h2 := h.fs
  refine ⟨by go_simp, by go_simp, by rw [hb.cell h.lh h.hs]; exact h.ch, by rw [hb.cell h.lm h.ms]; exact h.cm, Nat.lt_of_lt_of_le h.ls hb.size, Nat.lt_of_lt_of_le h.lh hb.size, Nat.lt_of_lt_of_le h.lm hb.size, h.hs, h.ms⟩

/-- What the closure answers, where so many parts were counted ahead and it is called so deep. -/
def mayR (has : Int → Bool) (c l : Int) (e : Ex) : Bool := decide (c + e.sz ≤ 64) && (decide (l + e.dp ≤ 17) && okB mayV has e)

theorem mayR_big {has : Int → Bool} {c l : Int} {e : Ex} (h : 64 < c + 1) : mayR has c l e = false := by
  have := e.sz_pos
  simp only [mayR, Bool.and_eq_false_iff, decide_eq_false_iff_not]
  exact .inl (by omega)
theorem mayR_deep {has : Int → Bool} {c l : Int} {e : Ex} (h : 16 < l) : mayR has c l e = false := by
  have := e.dp_pos
  simp only [mayR, Bool.and_eq_false_iff, decide_eq_false_iff_not]
  exact .inr (.inl (by omega))
theorem mayR_form {has : Int → Bool} {c l : Int} {e : Ex} (h : formedB mayV has e = false) : mayR has c l e = false := by
  simp only [mayR, Bool.and_eq_false_iff]
  exact .inr (.inr (by unfold okB; rw [Ex.allB_eq, h]; rfl))

theorem sumTo_lt {f : Nat → Nat} {n k : Nat} (h : k < n) : sumTo f k + f k ≤ sumTo f n := by
  induction n with
  | zero => omega
  | succ n ih =>
    simp only [sumTo]
    rcases Nat.lt_succ_iff_lt_or_eq.1 h with h | rfl
    · have := ih h; omega
    · omega

theorem maxTo_lt {f : Nat → Nat} {n b : Nat} (h : ∀ i, i < n → f i ≤ b) : maxTo f n ≤ b := by
  induction n with
  | zero => simp [maxTo]
  | succ n ih =>
    simp only [maxTo]
    have := ih (fun i hi => h i (by omega))
    have := h n (by omega)
    omega

theorem mayR_kid {has : Int → Bool} {c l : Int} {e : Ex} {k : Nat} (hk : k < e.len) (h : mayR has (c + 1 + sumTo (fun i => (e.kid i).sz) k) (l + 1) (e.kid k) = false) : mayR has c l e = false := by
  rw [← Bool.not_eq_true] at h ⊢
  intro h2
  apply h
  simp only [mayR, Bool.and_eq_true, decide_eq_true_eq] at h2 ⊢
  obtain ⟨h3, h4, h5⟩ := h2
  rw [Ex.sz_eq] at h3
  rw [Ex.dp_eq] at h4
  have h6 := sumTo_lt (f := fun i => (e.kid i).sz) hk
  have h7 := maxTo_le (f := fun i => (e.kid i).dp) hk
  unfold okB at h5 ⊢
  rw [Ex.allB_eq, Bool.and_eq_true, allTo_iff] at h5
  exact ⟨by omega, by omega, h5.2 k hk⟩

theorem mayR_all {has : Int → Bool} {c l : Int} {e : Ex} (h1 : c + 1 + sumTo (fun i => (e.kid i).sz) e.len ≤ 64) (h2 : l ≤ 16) (hf : formedB mayV has e = true)
    (h : ∀ k, k < e.len → ∃ c', mayR has c' (l + 1) (e.kid k) = true) : mayR has c l e = true := by
  simp only [mayR, Bool.and_eq_true, decide_eq_true_eq]
  refine ⟨by rw [Ex.sz_eq]; omega, ?_, ?_⟩
  · rw [Ex.dp_eq]
    have : maxTo (fun i => (e.kid i).dp) e.len ≤ (16 - l).toNat := maxTo_lt fun i hi => by
      obtain ⟨c', h3⟩ := h i hi
      simp only [mayR, Bool.and_eq_true, decide_eq_true_eq] at h3
      omega
    omega
  · unfold okB
    rw [Ex.allB_eq, Bool.and_eq_true, allTo_iff]
    refine ⟨hf, fun i hi => ?_⟩
    obtain ⟨c', h3⟩ := h i hi
    simp only [mayR, Bool.and_eq_true] at h3
    exact h3.2.2

/-- What is left behind the closure's call. -/
def Behind (gs gh gm : Nat) (f : FuncId) (cap : Array Value) (W : World) (b : Bool) (n : Int) (W' : World) : Prop :=
  But gs W W' ∧ ∃ c', St W' gs gh gm c' f cap ∧ (b = true → c' = n)

end Go.Proofs.Ytkipnkbmpgjcoaa
