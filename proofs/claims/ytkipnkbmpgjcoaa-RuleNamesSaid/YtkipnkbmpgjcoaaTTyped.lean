/-
  expr.numeric, asks, typed (stage 8): the type of an operation.
-/
import Derived.Test.YtkipnkbmpgjcoaaTU8
import Derived.Test.YtkipnkbmpgjcoaaTCol
namespace Go.Proofs.Ytkipnkbmpgjcoaa
open Go.RowKit

def numB (op : Int) : Bool := decide (op = 3) || (decide (op = 6) || (decide (op = 7) || decide (op = 8)))
def asksR (op x y : Int) : Int := if numB op then 1 else if op = 4 ∨ op = 11 ∨ op = 12 then 2 else if op = 13 then 4 else if x = 0 then y else x
def givenL (op x y : Int) : List Int := [x, y].take (arity op)
/-- Is a type none that is asked? -/
def offB (a : Int) (k : Int) : Bool := (k != a) && (k != 0)
/-- The type of an operation, from the types of its Args. -/
def typedR (op x y : Int) : Int × Int :=
  if (givenL op x y).any (offB (asksR op x y)) = true then (0, 60)
  else if op = 5 ∨ op = 11 ∨ op = 12 then (2, 0)
  else if (givenL op x y).any (fun k => (0 : Int) == k) = true then (0, 0)
  else if numB op = true then (1, 0) else (2, 0)

theorem numeric_is (op : Int) (b : Bool) (h : numB op = b) (w : World) : Calls Try.prog 101 #[.int .u8 op] w fun e w' => e = .returned (.bool b) ∧ w = w' := by
  subst h
  by_cases h3 : op = 3
  · subst h3
    go_enter Try.func101, Try.ntmps101
    go_wp2_with fail
    go_ret
    exact ⟨rfl, rfl⟩
  by_cases h6 : op = 6
  · subst h6
    go_enter Try.func101, Try.ntmps101
    go_wp2_with fail
    go_ret
    exact ⟨rfl, rfl⟩
  by_cases h7 : op = 7
  · subst h7
    go_enter Try.func101, Try.ntmps101
    go_wp2_with fail
    go_ret
    exact ⟨rfl, rfl⟩
  by_cases h8 : op = 8
  · subst h8
    go_enter Try.func101, Try.ntmps101
    go_wp2_with fail
    go_ret
    exact ⟨rfl, rfl⟩
  have d3 : (op == 3) = false := by simpa using h3
  have d6 : (op == 6) = false := by simpa using h6
  have d7 : (op == 7) = false := by simpa using h7
  have d8 : (op == 8) = false := by simpa using h8
  rw [show numB op = false by simp [numB, h3, h6, h7, h8]]
  go_enter Try.func101, Try.ntmps101
  go_wp2_with fail
  go_ret
  exact ⟨rfl, rfl⟩

theorem op_cases {op : Int} (h3 : 3 ≤ op) (h13 : op ≤ 13) : op = 3 ∨ op = 4 ∨ op = 5 ∨ op = 6 ∨ op = 7 ∨ op = 8 ∨ op = 9 ∨ op = 10 ∨ op = 11 ∨ op = 12 ∨ op = 13 := by omega

set_option maxHeartbeats 1000000 in
theorem asks_is (op x y : Int) (h3 : 3 ≤ op) (h13 : op ≤ 13) (a : Int) (ha : asksR op x y = a) (w : World) :
    Calls Try.prog 97 #[.int .u8 op, .agg #[.int .u8 x, .int .u8 y]] w fun e w' => e = .returned (.int .u8 a) ∧ Below w.heap.size w w' := by
  by_cases hx : x = 0
  · rcases op_cases h3 h13 with rfl | rfl | rfl | rfl | rfl | rfl | rfl | rfl | rfl | rfl | rfl <;>
    · simp [asksR, numB, hx] at ha
      subst ha
      go_enter Try.func97, Try.ntmps97
      go_wp2_with fail
      refine (numeric_is _ _ rfl _).mono ?_
      rintro e w1 ⟨rfl, rfl⟩
      simp only [numB]
      go_wp2_with fail
      go_ret
      exact ⟨rfl, Below.allocs _ _⟩
  · have hx' : (x == 0) = false := by simpa using hx
    rcases op_cases h3 h13 with rfl | rfl | rfl | rfl | rfl | rfl | rfl | rfl | rfl | rfl | rfl <;>
    · simp [asksR, numB, hx] at ha
      subst ha
      go_enter Try.func97, Try.ntmps97
      go_wp2_with fail
      refine (numeric_is _ _ rfl _).mono ?_
      rintro e w1 ⟨rfl, rfl⟩
      simp only [numB]
      go_wp2_with fail
      go_ret
      exact ⟨rfl, Below.allocs _ _⟩

theorem off_is (W : World) (g : Nat) (a : Int) (hg : g < W.heap.size) (hc : W.cell? ⟨g, 0, none⟩ = some (.int .u8 a)) : PredU W 99 #[.pointer (some ⟨g, 0, none⟩)] (offB a) := by
  refine ⟨fun args w => by go_simp, fun W' hb x => ?_⟩
  show Calls Try.prog 99 #[.int .u8 x, .pointer (some ⟨g, 0, none⟩)] W' _
  have hc' : W'.cell? ⟨g, 0, none⟩ = some (.int .u8 a) := by rw [hb.cell hg]; exact hc
  obtain ⟨q, hq⟩ : ∃ q, offB a x = q := ⟨_, rfl⟩
  rw [hq]
  unfold offB at hq
  clear hc hb
  by_cases h1 : x = a
  · have e1 : (x != a) = false := by simpa using h1
    obtain rfl : q = false := by rw [← hq]; simp [h1]
    clear h1 hq
    go_enter Try.func99, Try.ntmps99
    go_wp2_with fail
    go_ret
    exact ⟨rfl, Below.refl _ _⟩
  · have e1 : (x != a) = true := by simpa using h1
    rw [e1, Bool.true_and] at hq
    subst hq
    clear h1
    go_enter Try.func99, Try.ntmps99
    go_wp2_with fail
    go_ret
    exact ⟨rfl, Below.refl _ _⟩
/-- The two types that typed is given, in a block of their own. -/
theorem boxA (w : World) (x y : Int) : ∃ W g, w.alloc (.cells #[.int .u8 x, .int .u8 y] 126) = W ∧ w.heap.size = g ∧ Blk W g [.int .u8 x, .int .u8 y] ∧ Below w.heap.size w W :=
  ⟨_, _, rfl, rfl, Blk.new w _ _, Below.allocs w _⟩

theorem given_at {W : World} {g : Nat} {x y : Int} (h : Blk W g [.int .u8 x, .int .u8 y]) (op : Int) : LstU W g 0 (givenL op x y) := by
  refine ⟨h.lt, fun i v hv => ?_⟩
  unfold givenL at hv
  rw [List.getElem?_take] at hv
  split at hv
  · rw [Nat.zero_add]
    refine h.get i _ ?_
    match i, hv with
    | 0, hv => simp at hv ⊢; exact hv
    | 1, hv => simp at hv ⊢; exact hv
    | i + 2, hv => simp at hv
  · cases hv

theorem boxU (w : World) (a : Int) : ∃ W g, w.alloc (.cells #[.int .u8 a] 5) = W ∧ w.heap.size = g ∧ W.cell? ⟨g, 0, none⟩ = some (.int .u8 a) ∧ g < W.heap.size ∧ Below w.heap.size w W :=
  ⟨_, _, rfl, rfl, by go_simp, by simp, Below.allocs w _⟩

set_option maxRecDepth 100000 in
set_option maxHeartbeats 2000000 in
theorem typed_3 (x y k f : Int) (hr : typedR 3 x y = (k, f)) (w : World) :
    Calls Try.prog 82 #[.int .u8 3, .agg #[.int .u8 x, .int .u8 y]] w fun e w' => e = .returned (.tuple #[.int .u8 k, .int .i64 f]) ∧ Below w.heap.size w w' := by
  obtain ⟨a, ha⟩ : ∃ a, asksR 3 x y = a := ⟨_, rfl⟩
  obtain ⟨q, hq⟩ : ∃ q, (givenL 3 x y).any (offB a) = q := ⟨_, rfl⟩
  obtain ⟨z, hz⟩ : ∃ z, (givenL 3 x y).any (fun k => (0 : Int) == k) = z := ⟨_, rfl⟩
  unfold typedR at hr
  rw [ha, hq, hz] at hr
  have hl : (givenL 3 x y).length = 1 := rfl
  have HA := Lib.hid ha
  have HQ := Lib.hid hq
  have HZ := Lib.hid hz
  have HL := Lib.hid hl
  have HR := Lib.hid hr
  clear ha hq hz hl hr
  obtain ⟨W, g, hW, hg, B, hb⟩ := boxA w x y
  have HBK := Lib.hid B
  have HB := Lib.hid hb
  have c0 := B.get 0 _ rfl
  have c1 := B.get 1 _ rfl
  clear B hb
  go_enter Try.func82, Try.ntmps82
  go_wp2_with fail
  refine (arity_is 3 1 rfl _).mono ?_
  rintro e w1 ⟨rfl, rfl⟩
  go_wp2_with fail
  refine (asks_is 3 x y (by decide) (by decide) a HA.out _).mono ?_
  rintro e w1 ⟨rfl, hb1⟩
  obtain ⟨V, h, hV, hh, cV, lV, hbV⟩ := boxU w1 a
  have HBV := Lib.hid (below_tr (below_tr HB.out hb1) hbV)
  have HBKV := Lib.hid ((HBK.out.below hb1).below hbV)
  have hcon := contains_u8f 99 #[.pointer (some ⟨h, 0, none⟩)] (offB a) g 0 2 1 (givenL 3 x y) HL.out (by decide) V (given_at HBKV.out 3) (off_is V h a lV cV) q HQ.out
  clear hb1 hbV c0 c1 cV lV hW
  go_wp2_with fail
  refine hcon.mono ?_
  rintro e w2 ⟨rfl, hb2⟩
  have HB2 := Lib.hid (below_tr HBV.out hb2)
  have HBK2 := Lib.hid (HBKV.out.below hb2)
  clear hcon hb2 hV
  cases q
  · have hcon := contains_u8 0 g 0 2 1 (givenL 3 x y) HL.out (by decide) w2 (given_at HBK2.out 3) z HZ.out
    go_wp2_with fail
    refine hcon.mono ?_
    rintro e w3 ⟨rfl, rfl⟩
    clear hcon
    cases z
    · have hr := HR.out
      simp [numB] at hr
      obtain ⟨rfl, rfl⟩ := hr
      go_wp2_with fail
      refine (numeric_is 3 true rfl _).mono ?_
      rintro e w3 ⟨rfl, rfl⟩
      go_wp2_with fail
      go_ret2
      exact ⟨rfl, HB2.out⟩
    · have hr := HR.out
      simp at hr
      obtain ⟨rfl, rfl⟩ := hr
      go_wp2_with fail
      go_ret2
      exact ⟨rfl, HB2.out⟩
  · have hr := HR.out
    simp at hr
    obtain ⟨rfl, rfl⟩ := hr
    go_wp2_with fail
    go_ret2
    exact ⟨rfl, HB2.out⟩

set_option maxRecDepth 100000 in
set_option maxHeartbeats 2000000 in
theorem typed_4 (x y k f : Int) (hr : typedR 4 x y = (k, f)) (w : World) :
    Calls Try.prog 82 #[.int .u8 4, .agg #[.int .u8 x, .int .u8 y]] w fun e w' => e = .returned (.tuple #[.int .u8 k, .int .i64 f]) ∧ Below w.heap.size w w' := by
  obtain ⟨a, ha⟩ : ∃ a, asksR 4 x y = a := ⟨_, rfl⟩
  obtain ⟨q, hq⟩ : ∃ q, (givenL 4 x y).any (offB a) = q := ⟨_, rfl⟩
  obtain ⟨z, hz⟩ : ∃ z, (givenL 4 x y).any (fun k => (0 : Int) == k) = z := ⟨_, rfl⟩
  unfold typedR at hr
  rw [ha, hq, hz] at hr
  have hl : (givenL 4 x y).length = 1 := rfl
  have HA := Lib.hid ha
  have HQ := Lib.hid hq
  have HZ := Lib.hid hz
  have HL := Lib.hid hl
  have HR := Lib.hid hr
  clear ha hq hz hl hr
  obtain ⟨W, g, hW, hg, B, hb⟩ := boxA w x y
  have HBK := Lib.hid B
  have HB := Lib.hid hb
  have c0 := B.get 0 _ rfl
  have c1 := B.get 1 _ rfl
  clear B hb
  go_enter Try.func82, Try.ntmps82
  go_wp2_with fail
  refine (arity_is 4 1 rfl _).mono ?_
  rintro e w1 ⟨rfl, rfl⟩
  go_wp2_with fail
  refine (asks_is 4 x y (by decide) (by decide) a HA.out _).mono ?_
  rintro e w1 ⟨rfl, hb1⟩
  obtain ⟨V, h, hV, hh, cV, lV, hbV⟩ := boxU w1 a
  have HBV := Lib.hid (below_tr (below_tr HB.out hb1) hbV)
  have HBKV := Lib.hid ((HBK.out.below hb1).below hbV)
  have hcon := contains_u8f 99 #[.pointer (some ⟨h, 0, none⟩)] (offB a) g 0 2 1 (givenL 4 x y) HL.out (by decide) V (given_at HBKV.out 4) (off_is V h a lV cV) q HQ.out
  clear hb1 hbV c0 c1 cV lV hW
  go_wp2_with fail
  refine hcon.mono ?_
  rintro e w2 ⟨rfl, hb2⟩
  have HB2 := Lib.hid (below_tr HBV.out hb2)
  have HBK2 := Lib.hid (HBKV.out.below hb2)
  clear hcon hb2 hV
  cases q
  · have hcon := contains_u8 0 g 0 2 1 (givenL 4 x y) HL.out (by decide) w2 (given_at HBK2.out 4) z HZ.out
    go_wp2_with fail
    refine hcon.mono ?_
    rintro e w3 ⟨rfl, rfl⟩
    clear hcon
    cases z
    · have hr := HR.out
      simp [numB] at hr
      obtain ⟨rfl, rfl⟩ := hr
      go_wp2_with fail
      refine (numeric_is 4 false rfl _).mono ?_
      rintro e w3 ⟨rfl, rfl⟩
      go_wp2_with fail
      go_ret2
      exact ⟨rfl, HB2.out⟩
    · have hr := HR.out
      simp at hr
      obtain ⟨rfl, rfl⟩ := hr
      go_wp2_with fail
      go_ret2
      exact ⟨rfl, HB2.out⟩
  · have hr := HR.out
    simp at hr
    obtain ⟨rfl, rfl⟩ := hr
    go_wp2_with fail
    go_ret2
    exact ⟨rfl, HB2.out⟩

set_option maxRecDepth 100000 in
set_option maxHeartbeats 2000000 in
theorem typed_5 (x y k f : Int) (hr : typedR 5 x y = (k, f)) (w : World) :
    Calls Try.prog 82 #[.int .u8 5, .agg #[.int .u8 x, .int .u8 y]] w fun e w' => e = .returned (.tuple #[.int .u8 k, .int .i64 f]) ∧ Below w.heap.size w w' := by
  obtain ⟨a, ha⟩ : ∃ a, asksR 5 x y = a := ⟨_, rfl⟩
  obtain ⟨q, hq⟩ : ∃ q, (givenL 5 x y).any (offB a) = q := ⟨_, rfl⟩
  obtain ⟨z, hz⟩ : ∃ z, (givenL 5 x y).any (fun k => (0 : Int) == k) = z := ⟨_, rfl⟩
  unfold typedR at hr
  rw [ha, hq, hz] at hr
  have hl : (givenL 5 x y).length = 1 := rfl
  have HA := Lib.hid ha
  have HQ := Lib.hid hq
  have HZ := Lib.hid hz
  have HL := Lib.hid hl
  have HR := Lib.hid hr
  clear ha hq hz hl hr
  obtain ⟨W, g, hW, hg, B, hb⟩ := boxA w x y
  have HBK := Lib.hid B
  have HB := Lib.hid hb
  have c0 := B.get 0 _ rfl
  have c1 := B.get 1 _ rfl
  clear B hb
  go_enter Try.func82, Try.ntmps82
  go_wp2_with fail
  refine (arity_is 5 1 rfl _).mono ?_
  rintro e w1 ⟨rfl, rfl⟩
  go_wp2_with fail
  refine (asks_is 5 x y (by decide) (by decide) a HA.out _).mono ?_
  rintro e w1 ⟨rfl, hb1⟩
  obtain ⟨V, h, hV, hh, cV, lV, hbV⟩ := boxU w1 a
  have HBV := Lib.hid (below_tr (below_tr HB.out hb1) hbV)
  have HBKV := Lib.hid ((HBK.out.below hb1).below hbV)
  have hcon := contains_u8f 99 #[.pointer (some ⟨h, 0, none⟩)] (offB a) g 0 2 1 (givenL 5 x y) HL.out (by decide) V (given_at HBKV.out 5) (off_is V h a lV cV) q HQ.out
  clear hb1 hbV c0 c1 cV lV hW
  go_wp2_with fail
  refine hcon.mono ?_
  rintro e w2 ⟨rfl, hb2⟩
  have HB2 := Lib.hid (below_tr HBV.out hb2)
  have HBK2 := Lib.hid (HBKV.out.below hb2)
  clear hcon hb2 hV
  cases q
  · have hr := HR.out
    simp at hr
    obtain ⟨rfl, rfl⟩ := hr
    go_wp2_with fail
    go_ret2
    exact ⟨rfl, HB2.out⟩
  · have hr := HR.out
    simp at hr
    obtain ⟨rfl, rfl⟩ := hr
    go_wp2_with fail
    go_ret2
    exact ⟨rfl, HB2.out⟩

set_option maxRecDepth 100000 in
set_option maxHeartbeats 2000000 in
theorem typed_6 (x y k f : Int) (hr : typedR 6 x y = (k, f)) (w : World) :
    Calls Try.prog 82 #[.int .u8 6, .agg #[.int .u8 x, .int .u8 y]] w fun e w' => e = .returned (.tuple #[.int .u8 k, .int .i64 f]) ∧ Below w.heap.size w w' := by
  obtain ⟨a, ha⟩ : ∃ a, asksR 6 x y = a := ⟨_, rfl⟩
  obtain ⟨q, hq⟩ : ∃ q, (givenL 6 x y).any (offB a) = q := ⟨_, rfl⟩
  obtain ⟨z, hz⟩ : ∃ z, (givenL 6 x y).any (fun k => (0 : Int) == k) = z := ⟨_, rfl⟩
  unfold typedR at hr
  rw [ha, hq, hz] at hr
  have hl : (givenL 6 x y).length = 2 := rfl
  have HA := Lib.hid ha
  have HQ := Lib.hid hq
  have HZ := Lib.hid hz
  have HL := Lib.hid hl
  have HR := Lib.hid hr
  clear ha hq hz hl hr
  obtain ⟨W, g, hW, hg, B, hb⟩ := boxA w x y
  have HBK := Lib.hid B
  have HB := Lib.hid hb
  have c0 := B.get 0 _ rfl
  have c1 := B.get 1 _ rfl
  clear B hb
  go_enter Try.func82, Try.ntmps82
  go_wp2_with fail
  refine (arity_is 6 2 rfl _).mono ?_
  rintro e w1 ⟨rfl, rfl⟩
  go_wp2_with fail
  refine (asks_is 6 x y (by decide) (by decide) a HA.out _).mono ?_
  rintro e w1 ⟨rfl, hb1⟩
  obtain ⟨V, h, hV, hh, cV, lV, hbV⟩ := boxU w1 a
  have HBV := Lib.hid (below_tr (below_tr HB.out hb1) hbV)
  have HBKV := Lib.hid ((HBK.out.below hb1).below hbV)
  have hcon := contains_u8f 99 #[.pointer (some ⟨h, 0, none⟩)] (offB a) g 0 2 2 (givenL 6 x y) HL.out (by decide) V (given_at HBKV.out 6) (off_is V h a lV cV) q HQ.out
  clear hb1 hbV c0 c1 cV lV hW
  go_wp2_with fail
  refine hcon.mono ?_
  rintro e w2 ⟨rfl, hb2⟩
  have HB2 := Lib.hid (below_tr HBV.out hb2)
  have HBK2 := Lib.hid (HBKV.out.below hb2)
  clear hcon hb2 hV
  cases q
  · have hcon := contains_u8 0 g 0 2 2 (givenL 6 x y) HL.out (by decide) w2 (given_at HBK2.out 6) z HZ.out
    go_wp2_with fail
    refine hcon.mono ?_
    rintro e w3 ⟨rfl, rfl⟩
    clear hcon
    cases z
    · have hr := HR.out
      simp [numB] at hr
      obtain ⟨rfl, rfl⟩ := hr
      go_wp2_with fail
      refine (numeric_is 6 true rfl _).mono ?_
      rintro e w3 ⟨rfl, rfl⟩
      go_wp2_with fail
      go_ret2
      exact ⟨rfl, HB2.out⟩
    · have hr := HR.out
      simp at hr
      obtain ⟨rfl, rfl⟩ := hr
      go_wp2_with fail
      go_ret2
      exact ⟨rfl, HB2.out⟩
  · have hr := HR.out
    simp at hr
    obtain ⟨rfl, rfl⟩ := hr
    go_wp2_with fail
    go_ret2
    exact ⟨rfl, HB2.out⟩

set_option maxRecDepth 100000 in
set_option maxHeartbeats 2000000 in
theorem typed_7 (x y k f : Int) (hr : typedR 7 x y = (k, f)) (w : World) :
    Calls Try.prog 82 #[.int .u8 7, .agg #[.int .u8 x, .int .u8 y]] w fun e w' => e = .returned (.tuple #[.int .u8 k, .int .i64 f]) ∧ Below w.heap.size w w' := by
  obtain ⟨a, ha⟩ : ∃ a, asksR 7 x y = a := ⟨_, rfl⟩
  obtain ⟨q, hq⟩ : ∃ q, (givenL 7 x y).any (offB a) = q := ⟨_, rfl⟩
  obtain ⟨z, hz⟩ : ∃ z, (givenL 7 x y).any (fun k => (0 : Int) == k) = z := ⟨_, rfl⟩
  unfold typedR at hr
  rw [ha, hq, hz] at hr
  have hl : (givenL 7 x y).length = 2 := rfl
  have HA := Lib.hid ha
  have HQ := Lib.hid hq
  have HZ := Lib.hid hz
  have HL := Lib.hid hl
  have HR := Lib.hid hr
  clear ha hq hz hl hr
  obtain ⟨W, g, hW, hg, B, hb⟩ := boxA w x y
  have HBK := Lib.hid B
  have HB := Lib.hid hb
  have c0 := B.get 0 _ rfl
  have c1 := B.get 1 _ rfl
  clear B hb
  go_enter Try.func82, Try.ntmps82
  go_wp2_with fail
  refine (arity_is 7 2 rfl _).mono ?_
  rintro e w1 ⟨rfl, rfl⟩
  go_wp2_with fail
  refine (asks_is 7 x y (by decide) (by decide) a HA.out _).mono ?_
  rintro e w1 ⟨rfl, hb1⟩
  obtain ⟨V, h, hV, hh, cV, lV, hbV⟩ := boxU w1 a
  have HBV := Lib.hid (below_tr (below_tr HB.out hb1) hbV)
  have HBKV := Lib.hid ((HBK.out.below hb1).below hbV)
  have hcon := contains_u8f 99 #[.pointer (some ⟨h, 0, none⟩)] (offB a) g 0 2 2 (givenL 7 x y) HL.out (by decide) V (given_at HBKV.out 7) (off_is V h a lV cV) q HQ.out
  clear hb1 hbV c0 c1 cV lV hW
  go_wp2_with fail
  refine hcon.mono ?_
  rintro e w2 ⟨rfl, hb2⟩
  have HB2 := Lib.hid (below_tr HBV.out hb2)
  have HBK2 := Lib.hid (HBKV.out.below hb2)
  clear hcon hb2 hV
  cases q
  · have hcon := contains_u8 0 g 0 2 2 (givenL 7 x y) HL.out (by decide) w2 (given_at HBK2.out 7) z HZ.out
    go_wp2_with fail
    refine hcon.mono ?_
    rintro e w3 ⟨rfl, rfl⟩
    clear hcon
    cases z
    · have hr := HR.out
      simp [numB] at hr
      obtain ⟨rfl, rfl⟩ := hr
      go_wp2_with fail
      refine (numeric_is 7 true rfl _).mono ?_
      rintro e w3 ⟨rfl, rfl⟩
      go_wp2_with fail
      go_ret2
      exact ⟨rfl, HB2.out⟩
    · have hr := HR.out
      simp at hr
      obtain ⟨rfl, rfl⟩ := hr
      go_wp2_with fail
      go_ret2
      exact ⟨rfl, HB2.out⟩
  · have hr := HR.out
    simp at hr
    obtain ⟨rfl, rfl⟩ := hr
    go_wp2_with fail
    go_ret2
    exact ⟨rfl, HB2.out⟩

set_option maxRecDepth 100000 in
set_option maxHeartbeats 2000000 in
theorem typed_8 (x y k f : Int) (hr : typedR 8 x y = (k, f)) (w : World) :
    Calls Try.prog 82 #[.int .u8 8, .agg #[.int .u8 x, .int .u8 y]] w fun e w' => e = .returned (.tuple #[.int .u8 k, .int .i64 f]) ∧ Below w.heap.size w w' := by
  obtain ⟨a, ha⟩ : ∃ a, asksR 8 x y = a := ⟨_, rfl⟩
  obtain ⟨q, hq⟩ : ∃ q, (givenL 8 x y).any (offB a) = q := ⟨_, rfl⟩
  obtain ⟨z, hz⟩ : ∃ z, (givenL 8 x y).any (fun k => (0 : Int) == k) = z := ⟨_, rfl⟩
  unfold typedR at hr
  rw [ha, hq, hz] at hr
  have hl : (givenL 8 x y).length = 2 := rfl
  have HA := Lib.hid ha
  have HQ := Lib.hid hq
  have HZ := Lib.hid hz
  have HL := Lib.hid hl
  have HR := Lib.hid hr
  clear ha hq hz hl hr
  obtain ⟨W, g, hW, hg, B, hb⟩ := boxA w x y
  have HBK := Lib.hid B
  have HB := Lib.hid hb
  have c0 := B.get 0 _ rfl
  have c1 := B.get 1 _ rfl
  clear B hb
  go_enter Try.func82, Try.ntmps82
  go_wp2_with fail
  refine (arity_is 8 2 rfl _).mono ?_
  rintro e w1 ⟨rfl, rfl⟩
  go_wp2_with fail
  refine (asks_is 8 x y (by decide) (by decide) a HA.out _).mono ?_
  rintro e w1 ⟨rfl, hb1⟩
  obtain ⟨V, h, hV, hh, cV, lV, hbV⟩ := boxU w1 a
  have HBV := Lib.hid (below_tr (below_tr HB.out hb1) hbV)
  have HBKV := Lib.hid ((HBK.out.below hb1).below hbV)
  have hcon := contains_u8f 99 #[.pointer (some ⟨h, 0, none⟩)] (offB a) g 0 2 2 (givenL 8 x y) HL.out (by decide) V (given_at HBKV.out 8) (off_is V h a lV cV) q HQ.out
  clear hb1 hbV c0 c1 cV lV hW
  go_wp2_with fail
  refine hcon.mono ?_
  rintro e w2 ⟨rfl, hb2⟩
  have HB2 := Lib.hid (below_tr HBV.out hb2)
  have HBK2 := Lib.hid (HBKV.out.below hb2)
  clear hcon hb2 hV
  cases q
  · have hcon := contains_u8 0 g 0 2 2 (givenL 8 x y) HL.out (by decide) w2 (given_at HBK2.out 8) z HZ.out
    go_wp2_with fail
    refine hcon.mono ?_
    rintro e w3 ⟨rfl, rfl⟩
    clear hcon
    cases z
    · have hr := HR.out
      simp [numB] at hr
      obtain ⟨rfl, rfl⟩ := hr
      go_wp2_with fail
      refine (numeric_is 8 true rfl _).mono ?_
      rintro e w3 ⟨rfl, rfl⟩
      go_wp2_with fail
      go_ret2
      exact ⟨rfl, HB2.out⟩
    · have hr := HR.out
      simp at hr
      obtain ⟨rfl, rfl⟩ := hr
      go_wp2_with fail
      go_ret2
      exact ⟨rfl, HB2.out⟩
  · have hr := HR.out
    simp at hr
    obtain ⟨rfl, rfl⟩ := hr
    go_wp2_with fail
    go_ret2
    exact ⟨rfl, HB2.out⟩

set_option maxRecDepth 100000 in
set_option maxHeartbeats 2000000 in
theorem typed_9 (x y k f : Int) (hr : typedR 9 x y = (k, f)) (w : World) :
    Calls Try.prog 82 #[.int .u8 9, .agg #[.int .u8 x, .int .u8 y]] w fun e w' => e = .returned (.tuple #[.int .u8 k, .int .i64 f]) ∧ Below w.heap.size w w' := by
  obtain ⟨a, ha⟩ : ∃ a, asksR 9 x y = a := ⟨_, rfl⟩
  obtain ⟨q, hq⟩ : ∃ q, (givenL 9 x y).any (offB a) = q := ⟨_, rfl⟩
  obtain ⟨z, hz⟩ : ∃ z, (givenL 9 x y).any (fun k => (0 : Int) == k) = z := ⟨_, rfl⟩
  unfold typedR at hr
  rw [ha, hq, hz] at hr
  have hl : (givenL 9 x y).length = 2 := rfl
  have HA := Lib.hid ha
  have HQ := Lib.hid hq
  have HZ := Lib.hid hz
  have HL := Lib.hid hl
  have HR := Lib.hid hr
  clear ha hq hz hl hr
  obtain ⟨W, g, hW, hg, B, hb⟩ := boxA w x y
  have HBK := Lib.hid B
  have HB := Lib.hid hb
  have c0 := B.get 0 _ rfl
  have c1 := B.get 1 _ rfl
  clear B hb
  go_enter Try.func82, Try.ntmps82
  go_wp2_with fail
  refine (arity_is 9 2 rfl _).mono ?_
  rintro e w1 ⟨rfl, rfl⟩
  go_wp2_with fail
  refine (asks_is 9 x y (by decide) (by decide) a HA.out _).mono ?_
  rintro e w1 ⟨rfl, hb1⟩
  obtain ⟨V, h, hV, hh, cV, lV, hbV⟩ := boxU w1 a
  have HBV := Lib.hid (below_tr (below_tr HB.out hb1) hbV)
  have HBKV := Lib.hid ((HBK.out.below hb1).below hbV)
  have hcon := contains_u8f 99 #[.pointer (some ⟨h, 0, none⟩)] (offB a) g 0 2 2 (givenL 9 x y) HL.out (by decide) V (given_at HBKV.out 9) (off_is V h a lV cV) q HQ.out
  clear hb1 hbV c0 c1 cV lV hW
  go_wp2_with fail
  refine hcon.mono ?_
  rintro e w2 ⟨rfl, hb2⟩
  have HB2 := Lib.hid (below_tr HBV.out hb2)
  have HBK2 := Lib.hid (HBKV.out.below hb2)
  clear hcon hb2 hV
  cases q
  · have hcon := contains_u8 0 g 0 2 2 (givenL 9 x y) HL.out (by decide) w2 (given_at HBK2.out 9) z HZ.out
    go_wp2_with fail
    refine hcon.mono ?_
    rintro e w3 ⟨rfl, rfl⟩
    clear hcon
    cases z
    · have hr := HR.out
      simp [numB] at hr
      obtain ⟨rfl, rfl⟩ := hr
      go_wp2_with fail
      refine (numeric_is 9 false rfl _).mono ?_
      rintro e w3 ⟨rfl, rfl⟩
      go_wp2_with fail
      go_ret2
      exact ⟨rfl, HB2.out⟩
    · have hr := HR.out
      simp at hr
      obtain ⟨rfl, rfl⟩ := hr
      go_wp2_with fail
      go_ret2
      exact ⟨rfl, HB2.out⟩
  · have hr := HR.out
    simp at hr
    obtain ⟨rfl, rfl⟩ := hr
    go_wp2_with fail
    go_ret2
    exact ⟨rfl, HB2.out⟩

set_option maxRecDepth 100000 in
set_option maxHeartbeats 2000000 in
theorem typed_10 (x y k f : Int) (hr : typedR 10 x y = (k, f)) (w : World) :
    Calls Try.prog 82 #[.int .u8 10, .agg #[.int .u8 x, .int .u8 y]] w fun e w' => e = .returned (.tuple #[.int .u8 k, .int .i64 f]) ∧ Below w.heap.size w w' := by
  obtain ⟨a, ha⟩ : ∃ a, asksR 10 x y = a := ⟨_, rfl⟩
  obtain ⟨q, hq⟩ : ∃ q, (givenL 10 x y).any (offB a) = q := ⟨_, rfl⟩
  obtain ⟨z, hz⟩ : ∃ z, (givenL 10 x y).any (fun k => (0 : Int) == k) = z := ⟨_, rfl⟩
  unfold typedR at hr
  rw [ha, hq, hz] at hr
  have hl : (givenL 10 x y).length = 2 := rfl
  have HA := Lib.hid ha
  have HQ := Lib.hid hq
  have HZ := Lib.hid hz
  have HL := Lib.hid hl
  have HR := Lib.hid hr
  clear ha hq hz hl hr
  obtain ⟨W, g, hW, hg, B, hb⟩ := boxA w x y
  have HBK := Lib.hid B
  have HB := Lib.hid hb
  have c0 := B.get 0 _ rfl
  have c1 := B.get 1 _ rfl
  clear B hb
  go_enter Try.func82, Try.ntmps82
  go_wp2_with fail
  refine (arity_is 10 2 rfl _).mono ?_
  rintro e w1 ⟨rfl, rfl⟩
  go_wp2_with fail
  refine (asks_is 10 x y (by decide) (by decide) a HA.out _).mono ?_
  rintro e w1 ⟨rfl, hb1⟩
  obtain ⟨V, h, hV, hh, cV, lV, hbV⟩ := boxU w1 a
  have HBV := Lib.hid (below_tr (below_tr HB.out hb1) hbV)
  have HBKV := Lib.hid ((HBK.out.below hb1).below hbV)
  have hcon := contains_u8f 99 #[.pointer (some ⟨h, 0, none⟩)] (offB a) g 0 2 2 (givenL 10 x y) HL.out (by decide) V (given_at HBKV.out 10) (off_is V h a lV cV) q HQ.out
  clear hb1 hbV c0 c1 cV lV hW
  go_wp2_with fail
  refine hcon.mono ?_
  rintro e w2 ⟨rfl, hb2⟩
  have HB2 := Lib.hid (below_tr HBV.out hb2)
  have HBK2 := Lib.hid (HBKV.out.below hb2)
  clear hcon hb2 hV
  cases q
  · have hcon := contains_u8 0 g 0 2 2 (givenL 10 x y) HL.out (by decide) w2 (given_at HBK2.out 10) z HZ.out
    go_wp2_with fail
    refine hcon.mono ?_
    rintro e w3 ⟨rfl, rfl⟩
    clear hcon
    cases z
    · have hr := HR.out
      simp [numB] at hr
      obtain ⟨rfl, rfl⟩ := hr
      go_wp2_with fail
      refine (numeric_is 10 false rfl _).mono ?_
      rintro e w3 ⟨rfl, rfl⟩
      go_wp2_with fail
      go_ret2
      exact ⟨rfl, HB2.out⟩
    · have hr := HR.out
      simp at hr
      obtain ⟨rfl, rfl⟩ := hr
      go_wp2_with fail
      go_ret2
      exact ⟨rfl, HB2.out⟩
  · have hr := HR.out
    simp at hr
    obtain ⟨rfl, rfl⟩ := hr
    go_wp2_with fail
    go_ret2
    exact ⟨rfl, HB2.out⟩

set_option maxRecDepth 100000 in
set_option maxHeartbeats 2000000 in
theorem typed_11 (x y k f : Int) (hr : typedR 11 x y = (k, f)) (w : World) :
    Calls Try.prog 82 #[.int .u8 11, .agg #[.int .u8 x, .int .u8 y]] w fun e w' => e = .returned (.tuple #[.int .u8 k, .int .i64 f]) ∧ Below w.heap.size w w' := by
  obtain ⟨a, ha⟩ : ∃ a, asksR 11 x y = a := ⟨_, rfl⟩
  obtain ⟨q, hq⟩ : ∃ q, (givenL 11 x y).any (offB a) = q := ⟨_, rfl⟩
  obtain ⟨z, hz⟩ : ∃ z, (givenL 11 x y).any (fun k => (0 : Int) == k) = z := ⟨_, rfl⟩
  unfold typedR at hr
  rw [ha, hq, hz] at hr
  have hl : (givenL 11 x y).length = 2 := rfl
  have HA := Lib.hid ha
  have HQ := Lib.hid hq
  have HZ := Lib.hid hz
  have HL := Lib.hid hl
  have HR := Lib.hid hr
  clear ha hq hz hl hr
  obtain ⟨W, g, hW, hg, B, hb⟩ := boxA w x y
  have HBK := Lib.hid B
  have HB := Lib.hid hb
  have c0 := B.get 0 _ rfl
  have c1 := B.get 1 _ rfl
  clear B hb
  go_enter Try.func82, Try.ntmps82
  go_wp2_with fail
  refine (arity_is 11 2 rfl _).mono ?_
  rintro e w1 ⟨rfl, rfl⟩
  go_wp2_with fail
  refine (asks_is 11 x y (by decide) (by decide) a HA.out _).mono ?_
  rintro e w1 ⟨rfl, hb1⟩
  obtain ⟨V, h, hV, hh, cV, lV, hbV⟩ := boxU w1 a
  have HBV := Lib.hid (below_tr (below_tr HB.out hb1) hbV)
  have HBKV := Lib.hid ((HBK.out.below hb1).below hbV)
  have hcon := contains_u8f 99 #[.pointer (some ⟨h, 0, none⟩)] (offB a) g 0 2 2 (givenL 11 x y) HL.out (by decide) V (given_at HBKV.out 11) (off_is V h a lV cV) q HQ.out
  clear hb1 hbV c0 c1 cV lV hW
  go_wp2_with fail
  refine hcon.mono ?_
  rintro e w2 ⟨rfl, hb2⟩
  have HB2 := Lib.hid (below_tr HBV.out hb2)
  have HBK2 := Lib.hid (HBKV.out.below hb2)
  clear hcon hb2 hV
  cases q
  · have hr := HR.out
    simp at hr
    obtain ⟨rfl, rfl⟩ := hr
    go_wp2_with fail
    go_ret2
    exact ⟨rfl, HB2.out⟩
  · have hr := HR.out
    simp at hr
    obtain ⟨rfl, rfl⟩ := hr
    go_wp2_with fail
    go_ret2
    exact ⟨rfl, HB2.out⟩

set_option maxRecDepth 100000 in
set_option maxHeartbeats 2000000 in
theorem typed_12 (x y k f : Int) (hr : typedR 12 x y = (k, f)) (w : World) :
    Calls Try.prog 82 #[.int .u8 12, .agg #[.int .u8 x, .int .u8 y]] w fun e w' => e = .returned (.tuple #[.int .u8 k, .int .i64 f]) ∧ Below w.heap.size w w' := by
  obtain ⟨a, ha⟩ : ∃ a, asksR 12 x y = a := ⟨_, rfl⟩
  obtain ⟨q, hq⟩ : ∃ q, (givenL 12 x y).any (offB a) = q := ⟨_, rfl⟩
  obtain ⟨z, hz⟩ : ∃ z, (givenL 12 x y).any (fun k => (0 : Int) == k) = z := ⟨_, rfl⟩
  unfold typedR at hr
  rw [ha, hq, hz] at hr
  have hl : (givenL 12 x y).length = 2 := rfl
  have HA := Lib.hid ha
  have HQ := Lib.hid hq
  have HZ := Lib.hid hz
  have HL := Lib.hid hl
  have HR := Lib.hid hr
  clear ha hq hz hl hr
  obtain ⟨W, g, hW, hg, B, hb⟩ := boxA w x y
  have HBK := Lib.hid B
  have HB := Lib.hid hb
  have c0 := B.get 0 _ rfl
  have c1 := B.get 1 _ rfl
  clear B hb
  go_enter Try.func82, Try.ntmps82
  go_wp2_with fail
  refine (arity_is 12 2 rfl _).mono ?_
  rintro e w1 ⟨rfl, rfl⟩
  go_wp2_with fail
  refine (asks_is 12 x y (by decide) (by decide) a HA.out _).mono ?_
  rintro e w1 ⟨rfl, hb1⟩
  obtain ⟨V, h, hV, hh, cV, lV, hbV⟩ := boxU w1 a
  have HBV := Lib.hid (below_tr (below_tr HB.out hb1) hbV)
  have HBKV := Lib.hid ((HBK.out.below hb1).below hbV)
  have hcon := contains_u8f 99 #[.pointer (some ⟨h, 0, none⟩)] (offB a) g 0 2 2 (givenL 12 x y) HL.out (by decide) V (given_at HBKV.out 12) (off_is V h a lV cV) q HQ.out
  clear hb1 hbV c0 c1 cV lV hW
  go_wp2_with fail
  refine hcon.mono ?_
  rintro e w2 ⟨rfl, hb2⟩
  have HB2 := Lib.hid (below_tr HBV.out hb2)
  have HBK2 := Lib.hid (HBKV.out.below hb2)
  clear hcon hb2 hV
  cases q
  · have hr := HR.out
    simp at hr
    obtain ⟨rfl, rfl⟩ := hr
    go_wp2_with fail
    go_ret2
    exact ⟨rfl, HB2.out⟩
  · have hr := HR.out
    simp at hr
    obtain ⟨rfl, rfl⟩ := hr
    go_wp2_with fail
    go_ret2
    exact ⟨rfl, HB2.out⟩

set_option maxRecDepth 100000 in
set_option maxHeartbeats 2000000 in
theorem typed_13 (x y k f : Int) (hr : typedR 13 x y = (k, f)) (w : World) :
    Calls Try.prog 82 #[.int .u8 13, .agg #[.int .u8 x, .int .u8 y]] w fun e w' => e = .returned (.tuple #[.int .u8 k, .int .i64 f]) ∧ Below w.heap.size w w' := by
  obtain ⟨a, ha⟩ : ∃ a, asksR 13 x y = a := ⟨_, rfl⟩
  obtain ⟨q, hq⟩ : ∃ q, (givenL 13 x y).any (offB a) = q := ⟨_, rfl⟩
  obtain ⟨z, hz⟩ : ∃ z, (givenL 13 x y).any (fun k => (0 : Int) == k) = z := ⟨_, rfl⟩
  unfold typedR at hr
  rw [ha, hq, hz] at hr
  have hl : (givenL 13 x y).length = 2 := rfl
  have HA := Lib.hid ha
  have HQ := Lib.hid hq
  have HZ := Lib.hid hz
  have HL := Lib.hid hl
  have HR := Lib.hid hr
  clear ha hq hz hl hr
  obtain ⟨W, g, hW, hg, B, hb⟩ := boxA w x y
  have HBK := Lib.hid B
  have HB := Lib.hid hb
  have c0 := B.get 0 _ rfl
  have c1 := B.get 1 _ rfl
  clear B hb
  go_enter Try.func82, Try.ntmps82
  go_wp2_with fail
  refine (arity_is 13 2 rfl _).mono ?_
  rintro e w1 ⟨rfl, rfl⟩
  go_wp2_with fail
  refine (asks_is 13 x y (by decide) (by decide) a HA.out _).mono ?_
  rintro e w1 ⟨rfl, hb1⟩
  obtain ⟨V, h, hV, hh, cV, lV, hbV⟩ := boxU w1 a
  have HBV := Lib.hid (below_tr (below_tr HB.out hb1) hbV)
  have HBKV := Lib.hid ((HBK.out.below hb1).below hbV)
  have hcon := contains_u8f 99 #[.pointer (some ⟨h, 0, none⟩)] (offB a) g 0 2 2 (givenL 13 x y) HL.out (by decide) V (given_at HBKV.out 13) (off_is V h a lV cV) q HQ.out
  clear hb1 hbV c0 c1 cV lV hW
  go_wp2_with fail
  refine hcon.mono ?_
  rintro e w2 ⟨rfl, hb2⟩
  have HB2 := Lib.hid (below_tr HBV.out hb2)
  have HBK2 := Lib.hid (HBKV.out.below hb2)
  clear hcon hb2 hV
  cases q
  · have hcon := contains_u8 0 g 0 2 2 (givenL 13 x y) HL.out (by decide) w2 (given_at HBK2.out 13) z HZ.out
    go_wp2_with fail
    refine hcon.mono ?_
    rintro e w3 ⟨rfl, rfl⟩
    clear hcon
    cases z
    · have hr := HR.out
      simp [numB] at hr
      obtain ⟨rfl, rfl⟩ := hr
      go_wp2_with fail
      refine (numeric_is 13 false rfl _).mono ?_
      rintro e w3 ⟨rfl, rfl⟩
      go_wp2_with fail
      go_ret2
      exact ⟨rfl, HB2.out⟩
    · have hr := HR.out
      simp at hr
      obtain ⟨rfl, rfl⟩ := hr
      go_wp2_with fail
      go_ret2
      exact ⟨rfl, HB2.out⟩
  · have hr := HR.out
    simp at hr
    obtain ⟨rfl, rfl⟩ := hr
    go_wp2_with fail
    go_ret2
    exact ⟨rfl, HB2.out⟩

theorem typed_is (op x y k f : Int) (h3 : 3 ≤ op) (h13 : op ≤ 13) (hr : typedR op x y = (k, f)) (w : World) :
    Calls Try.prog 82 #[.int .u8 op, .agg #[.int .u8 x, .int .u8 y]] w fun e w' => e = .returned (.tuple #[.int .u8 k, .int .i64 f]) ∧ Below w.heap.size w w' := by
  rcases op_cases h3 h13 with rfl | rfl | rfl | rfl | rfl | rfl | rfl | rfl | rfl | rfl | rfl
  · exact typed_3 x y k f hr w
  · exact typed_4 x y k f hr w
  · exact typed_5 x y k f hr w
  · exact typed_6 x y k f hr w
  · exact typed_7 x y k f hr w
  · exact typed_8 x y k f hr w
  · exact typed_9 x y k f hr w
  · exact typed_10 x y k f hr w
  · exact typed_11 x y k f hr w
  · exact typed_12 x y k f hr w
  · exact typed_13 x y k f hr w
end Go.Proofs.Ytkipnkbmpgjcoaa
