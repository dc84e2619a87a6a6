/-
  A step, done to a heap (stage 11).
-/
import Derived.Test.YtkedkeelbbfmkaaHGiven
namespace Go.Proofs.Ytkedkeelbbfmkaa
open Go.RowKit
set_option linter.unusedVariables false

structure Stp where
  kind : Int
  t : Tup
  slot : Int
  a : Int
  b : Int

/-- Numbers of their kinds; rows as long as they may be. -/
structure Stp.wf (s : Stp) : Prop where
  k0 : 0 ≤ s.kind
  k1 : s.kind ≤ 255
  no : I64 s.t.no
  id : I64 s.t.id
  mn : I64 s.t.mn
  cm : I64 s.t.cm
  mx : I64 s.t.mx
  cx : I64 s.t.cx
  row : ∀ x ∈ s.t.row, x.wf
  slot : I64 s.slot
  a : I64 s.a
  b : I64 s.b

theorem Stp.wf.t {s : Stp} (h : s.wf) (hl : s.t.row.length ≤ 1000000) : s.t.wf := ⟨h.no, h.id, h.mn, h.cm, h.mx, h.cx, h.row, hl⟩

def stpC (s : Stp) (v : Value) : List Value := [.int .u8 s.kind, .int .i64 s.t.no, .int .i64 s.t.id, .int .i64 s.t.mn, .int .i64 s.t.cm, .int .i64 s.t.mx, .int .i64 s.t.cx, v, .int .i64 s.slot, .int .i64 s.a, .int .i64 s.b]
def stpV (s : Stp) (v : Value) : Value := .agg #[.int .u8 s.kind, .int .i64 s.t.no, .int .i64 s.t.id, .int .i64 s.t.mn, .int .i64 s.t.cm, .int .i64 s.t.mx, .int .i64 s.t.cx, v, .int .i64 s.slot, .int .i64 s.a, .int .i64 s.b]

def Ab.doA (A : Ab) (s : Stp) : Ab := if s.kind = 0 then A.pt s.t else if s.kind = 1 then A.kl s.slot s.a s.b else if s.kind = 2 then A.fe s.slot else A.nx s.a
def Ab.doV (A : Ab) (s : Stp) : Int := if s.kind = 0 then A.ptV s.t else if s.kind = 1 then 0 else if s.kind = 2 then 0 else A.nxV s.a
def Ab.doE (A : Ab) (s : Stp) : Int := if s.kind = 0 then A.ptE s.t else if s.kind = 1 then A.atE s.slot else if s.kind = 2 then A.atE s.slot else 0

set_option maxRecDepth 100000 in
set_option maxHeartbeats 4000000 in
theorem do_put (w : World) (h : Nat) (A : Ab) (z : Nat) (F : Nat → Prop) (s : Stp) (ra : Option Addr) (rc n : Nat) (hn : s.t.row.length = n) (hl : n ≤ 1000000) (hw : s.wf) (hr : SlL w ra rc s.t.row) (hz : z ≤ 80000) (H : Std w h A z F) (hk : s.kind = 0) :
    Calls Try.prog 28 #[stpV s (.slice ra n rc), ptrV h] w fun e w' => e = .returned (.tuple #[.int .i64 (A.doV s), .int .i64 (A.doE s)]) ∧ ∃ F', Std w' h (A.doA s) (z + 3) F' ∧ More w.heap.size F F' ∧ Touch F w w' := by
  have b1 := Below.allocs w (.cells (stpC s (.slice ra n rc)).toArray 53)
  have l1 := Lit.new w 53 (stpC s (.slice ra n rc))
  obtain ⟨g1, hg1⟩ : ∃ g, w.heap.size = g := ⟨_, rfl⟩
  obtain ⟨W1, hW1⟩ : ∃ W, w.alloc (.cells (stpC s (.slice ra n rc)).toArray 53) = W := ⟨_, rfl⟩
  rw [hW1] at b1 l1
  rw [hg1] at l1
  have H1 := H.below b1
  obtain ⟨k0, k1, k2, k3, k4, k5, k6, k7, k8, k9, k10, kl⟩ : W1.cell? ⟨g1, 0, none⟩ = some (.int .u8 s.kind) ∧ W1.cell? ⟨g1, 1, none⟩ = some (.int .i64 s.t.no) ∧ W1.cell? ⟨g1, 2, none⟩ = some (.int .i64 s.t.id) ∧ W1.cell? ⟨g1, 3, none⟩ = some (.int .i64 s.t.mn) ∧ W1.cell? ⟨g1, 4, none⟩ = some (.int .i64 s.t.cm) ∧ W1.cell? ⟨g1, 5, none⟩ = some (.int .i64 s.t.mx) ∧ W1.cell? ⟨g1, 6, none⟩ = some (.int .i64 s.t.cx) ∧ W1.cell? ⟨g1, 7, none⟩ = some (.slice ra n rc) ∧ W1.cell? ⟨g1, 8, none⟩ = some (.int .i64 s.slot) ∧ W1.cell? ⟨g1, 9, none⟩ = some (.int .i64 s.a) ∧ W1.cell? ⟨g1, 10, none⟩ = some (.int .i64 s.b) ∧ g1 < W1.heap.size :=
    ⟨l1.cell rfl, l1.cell rfl, l1.cell rfl, l1.cell rfl, l1.cell rfl, l1.cell rfl, l1.cell rfl, l1.cell rfl, l1.cell rfl, l1.cell rfl, l1.cell rfl, l1.lt⟩
  have hcon := given_is W1 s.t ra rc n hn hl (hr.below b1)
  have HS := Lib.hid (show ∀ w2 v, Below W1.heap.size W1 w2 → RowV w2 v s.t.row → Calls Try.prog 10 #[ptrV h, tupV s.t v] w2 fun e w' => e = .returned (.tuple #[.int .i64 (A.doV s), .int .i64 (A.doE s)]) ∧ ∃ F', Std w' h (A.doA s) (z + 3) F' ∧ More w2.heap.size F F' ∧ Touch F w2 w' from fun w2 v hb hv => by
    have := put_std w2 h A z F s.t v (by omega) (hw.t (by omega)) hv (H1.below hb)
    unfold Ab.doV Ab.doE Ab.doA
    rw [if_pos hk, if_pos hk, if_pos hk]
    exact this)
  rw [hk] at k0
  have HW1 := Lib.hid hW1
  have HG1 := Lib.hid hg1
  have HB := Lib.hid b1
  unfold stpC at HW1
  unfold stpV ptrV
  clear b1 l1 hW1 hg1 H H1 hr hw hz hn hl hk
  unfold tupV at hcon
  go_enter Try.func28, Try.ntmps28
  go_upto_region 1 with (fail)
  rw [show w.alloc _ = W1 from HW1.out, HG1.out]
  clear HW1 HG1
  go_wp2_with fail
  refine hcon.mono ?_
  rintro e w2 ⟨v, rfl, hv, hvo, hb2⟩
  have hcon2 := HS.out w2 v hb2 hv
  have HB2 := Lib.hid (below_tr HB.out hb2)
  clear hcon hv hvo hb2 HS HB
  unfold ptrV tupV at hcon2
  go_wp2_with fail
  refine hcon2.mono ?_
  rintro e w3 ⟨rfl, F', q1, q2, q3⟩
  have HE := Lib.hid (And.intro q1 (And.intro q2 q3))
  have HB := HB2
  clear hcon2 q1 q2 q3
  go_wp2_with fail
  go_ret2
  obtain ⟨q1, q2, q3⟩ := HE.out
  exact ⟨rfl, F', q1, q2.mono HB.out.size, (Touch.of_below HB.out).trans q3 (fun _ _ h => h)⟩

set_option maxRecDepth 100000 in
set_option maxHeartbeats 4000000 in
theorem do_kill (w : World) (h : Nat) (A : Ab) (z : Nat) (F : Nat → Prop) (s : Stp) (ra : Option Addr) (rc n : Nat) (hn : s.t.row.length = n) (hl : n ≤ 1000000) (hw : s.wf) (hr : SlL w ra rc s.t.row) (hz : z ≤ 80000) (H : Std w h A z F) (hk : s.kind = 1) :
    Calls Try.prog 28 #[stpV s (.slice ra n rc), ptrV h] w fun e w' => e = .returned (.tuple #[.int .i64 (A.doV s), .int .i64 (A.doE s)]) ∧ ∃ F', Std w' h (A.doA s) (z + 3) F' ∧ More w.heap.size F F' ∧ Touch F w w' := by
  have b1 := Below.allocs w (.cells (stpC s (.slice ra n rc)).toArray 53)
  have l1 := Lit.new w 53 (stpC s (.slice ra n rc))
  obtain ⟨g1, hg1⟩ : ∃ g, w.heap.size = g := ⟨_, rfl⟩
  obtain ⟨W1, hW1⟩ : ∃ W, w.alloc (.cells (stpC s (.slice ra n rc)).toArray 53) = W := ⟨_, rfl⟩
  rw [hW1] at b1 l1
  rw [hg1] at l1
  have H1 := H.below b1
  obtain ⟨k0, k1, k2, k3, k4, k5, k6, k7, k8, k9, k10, kl⟩ : W1.cell? ⟨g1, 0, none⟩ = some (.int .u8 s.kind) ∧ W1.cell? ⟨g1, 1, none⟩ = some (.int .i64 s.t.no) ∧ W1.cell? ⟨g1, 2, none⟩ = some (.int .i64 s.t.id) ∧ W1.cell? ⟨g1, 3, none⟩ = some (.int .i64 s.t.mn) ∧ W1.cell? ⟨g1, 4, none⟩ = some (.int .i64 s.t.cm) ∧ W1.cell? ⟨g1, 5, none⟩ = some (.int .i64 s.t.mx) ∧ W1.cell? ⟨g1, 6, none⟩ = some (.int .i64 s.t.cx) ∧ W1.cell? ⟨g1, 7, none⟩ = some (.slice ra n rc) ∧ W1.cell? ⟨g1, 8, none⟩ = some (.int .i64 s.slot) ∧ W1.cell? ⟨g1, 9, none⟩ = some (.int .i64 s.a) ∧ W1.cell? ⟨g1, 10, none⟩ = some (.int .i64 s.b) ∧ g1 < W1.heap.size :=
    ⟨l1.cell rfl, l1.cell rfl, l1.cell rfl, l1.cell rfl, l1.cell rfl, l1.cell rfl, l1.cell rfl, l1.cell rfl, l1.cell rfl, l1.cell rfl, l1.cell rfl, l1.lt⟩
  have hcon := kill_std W1 h A z F s.slot s.a s.b hw.a hw.b (by omega) H1
  have e1 : A.doV s = 0 := by unfold Ab.doV; rw [if_neg (by omega), if_pos hk]
  have e2 : A.doE s = A.atE s.slot := by unfold Ab.doE; rw [if_neg (by omega), if_pos hk]
  have e3 : A.doA s = A.kl s.slot s.a s.b := by unfold Ab.doA; rw [if_neg (by omega), if_pos hk]
  rw [e1, e2, e3]
  clear e1 e2 e3
  rw [hk] at k0
  have HW1 := Lib.hid hW1
  have HG1 := Lib.hid hg1
  have HB := Lib.hid b1
  unfold stpC at HW1
  unfold stpV ptrV
  clear b1 l1 hW1 hg1 H H1 hr hw hz hn hl hk
  unfold ptrV at hcon
  go_enter Try.func28, Try.ntmps28
  go_upto_region 1 with (fail)
  rw [show w.alloc _ = W1 from HW1.out, HG1.out]
  clear HW1 HG1
  go_wp2_with fail
  refine hcon.mono ?_
  rintro e w3 ⟨rfl, q1, q3⟩
  have HE := Lib.hid (And.intro q1 q3)
  clear hcon q1 q3
  go_wp2_with fail
  go_ret2
  obtain ⟨q1, q3⟩ := HE.out
  exact ⟨rfl, F, q1.more (by omega), More.refl _ _, (Touch.of_below HB.out).trans q3 (fun _ _ h => h)⟩

set_option maxRecDepth 100000 in
set_option maxHeartbeats 4000000 in
theorem do_free (w : World) (h : Nat) (A : Ab) (z : Nat) (F : Nat → Prop) (s : Stp) (ra : Option Addr) (rc n : Nat) (hn : s.t.row.length = n) (hl : n ≤ 1000000) (hw : s.wf) (hr : SlL w ra rc s.t.row) (hz : z ≤ 80000) (H : Std w h A z F) (hk : s.kind = 2) :
    Calls Try.prog 28 #[stpV s (.slice ra n rc), ptrV h] w fun e w' => e = .returned (.tuple #[.int .i64 (A.doV s), .int .i64 (A.doE s)]) ∧ ∃ F', Std w' h (A.doA s) (z + 3) F' ∧ More w.heap.size F F' ∧ Touch F w w' := by
  have b1 := Below.allocs w (.cells (stpC s (.slice ra n rc)).toArray 53)
  have l1 := Lit.new w 53 (stpC s (.slice ra n rc))
  obtain ⟨g1, hg1⟩ : ∃ g, w.heap.size = g := ⟨_, rfl⟩
  obtain ⟨W1, hW1⟩ : ∃ W, w.alloc (.cells (stpC s (.slice ra n rc)).toArray 53) = W := ⟨_, rfl⟩
  rw [hW1] at b1 l1
  rw [hg1] at l1
  have H1 := H.below b1
  obtain ⟨k0, k1, k2, k3, k4, k5, k6, k7, k8, k9, k10, kl⟩ : W1.cell? ⟨g1, 0, none⟩ = some (.int .u8 s.kind) ∧ W1.cell? ⟨g1, 1, none⟩ = some (.int .i64 s.t.no) ∧ W1.cell? ⟨g1, 2, none⟩ = some (.int .i64 s.t.id) ∧ W1.cell? ⟨g1, 3, none⟩ = some (.int .i64 s.t.mn) ∧ W1.cell? ⟨g1, 4, none⟩ = some (.int .i64 s.t.cm) ∧ W1.cell? ⟨g1, 5, none⟩ = some (.int .i64 s.t.mx) ∧ W1.cell? ⟨g1, 6, none⟩ = some (.int .i64 s.t.cx) ∧ W1.cell? ⟨g1, 7, none⟩ = some (.slice ra n rc) ∧ W1.cell? ⟨g1, 8, none⟩ = some (.int .i64 s.slot) ∧ W1.cell? ⟨g1, 9, none⟩ = some (.int .i64 s.a) ∧ W1.cell? ⟨g1, 10, none⟩ = some (.int .i64 s.b) ∧ g1 < W1.heap.size :=
    ⟨l1.cell rfl, l1.cell rfl, l1.cell rfl, l1.cell rfl, l1.cell rfl, l1.cell rfl, l1.cell rfl, l1.cell rfl, l1.cell rfl, l1.cell rfl, l1.cell rfl, l1.lt⟩
  have hcon := free_std W1 h A z F s.slot hz H1
  have e1 : A.doV s = 0 := by unfold Ab.doV; rw [if_neg (by omega), if_neg (by omega), if_pos hk]
  have e2 : A.doE s = A.atE s.slot := by unfold Ab.doE; rw [if_neg (by omega), if_neg (by omega), if_pos hk]
  have e3 : A.doA s = A.fe s.slot := by unfold Ab.doA; rw [if_neg (by omega), if_neg (by omega), if_pos hk]
  rw [e1, e2, e3]
  clear e1 e2 e3
  rw [hk] at k0
  have HW1 := Lib.hid hW1
  have HG1 := Lib.hid hg1
  have HB := Lib.hid b1
  unfold stpC at HW1
  unfold stpV ptrV
  clear b1 l1 hW1 hg1 H H1 hr hw hz hn hl hk
  unfold ptrV at hcon
  go_enter Try.func28, Try.ntmps28
  go_upto_region 1 with (fail)
  rw [show w.alloc _ = W1 from HW1.out, HG1.out]
  clear HW1 HG1
  go_wp2_with fail
  refine hcon.mono ?_
  rintro e w3 ⟨rfl, F', q1, q2, q3⟩
  have HE := Lib.hid (And.intro q1 (And.intro q2 q3))
  clear hcon q1 q2 q3
  go_wp2_with fail
  go_ret2
  obtain ⟨q1, q2, q3⟩ := HE.out
  exact ⟨rfl, F', q1.more (by omega), q2.mono HB.out.size, (Touch.of_below HB.out).trans q3 (fun _ _ h => h)⟩

set_option maxRecDepth 100000 in
set_option maxHeartbeats 4000000 in
theorem do_next (w : World) (h : Nat) (A : Ab) (z : Nat) (F : Nat → Prop) (s : Stp) (ra : Option Addr) (rc n : Nat) (hn : s.t.row.length = n) (hl : n ≤ 1000000) (hw : s.wf) (hr : SlL w ra rc s.t.row) (hz : z ≤ 80000) (H : Std w h A z F) (hk : s.kind ≠ 0 ∧ s.kind ≠ 1 ∧ s.kind ≠ 2) :
    Calls Try.prog 28 #[stpV s (.slice ra n rc), ptrV h] w fun e w' => e = .returned (.tuple #[.int .i64 (A.doV s), .int .i64 (A.doE s)]) ∧ ∃ F', Std w' h (A.doA s) (z + 3) F' ∧ More w.heap.size F F' ∧ Touch F w w' := by
  have b1 := Below.allocs w (.cells (stpC s (.slice ra n rc)).toArray 53)
  have l1 := Lit.new w 53 (stpC s (.slice ra n rc))
  obtain ⟨g1, hg1⟩ : ∃ g, w.heap.size = g := ⟨_, rfl⟩
  obtain ⟨W1, hW1⟩ : ∃ W, w.alloc (.cells (stpC s (.slice ra n rc)).toArray 53) = W := ⟨_, rfl⟩
  rw [hW1] at b1 l1
  rw [hg1] at l1
  have H1 := H.below b1
  obtain ⟨k0, k1, k2, k3, k4, k5, k6, k7, k8, k9, k10, kl⟩ : W1.cell? ⟨g1, 0, none⟩ = some (.int .u8 s.kind) ∧ W1.cell? ⟨g1, 1, none⟩ = some (.int .i64 s.t.no) ∧ W1.cell? ⟨g1, 2, none⟩ = some (.int .i64 s.t.id) ∧ W1.cell? ⟨g1, 3, none⟩ = some (.int .i64 s.t.mn) ∧ W1.cell? ⟨g1, 4, none⟩ = some (.int .i64 s.t.cm) ∧ W1.cell? ⟨g1, 5, none⟩ = some (.int .i64 s.t.mx) ∧ W1.cell? ⟨g1, 6, none⟩ = some (.int .i64 s.t.cx) ∧ W1.cell? ⟨g1, 7, none⟩ = some (.slice ra n rc) ∧ W1.cell? ⟨g1, 8, none⟩ = some (.int .i64 s.slot) ∧ W1.cell? ⟨g1, 9, none⟩ = some (.int .i64 s.a) ∧ W1.cell? ⟨g1, 10, none⟩ = some (.int .i64 s.b) ∧ g1 < W1.heap.size :=
    ⟨l1.cell rfl, l1.cell rfl, l1.cell rfl, l1.cell rfl, l1.cell rfl, l1.cell rfl, l1.cell rfl, l1.cell rfl, l1.cell rfl, l1.cell rfl, l1.cell rfl, l1.lt⟩
  have hcon := next_std W1 h A z F s.a (by omega) H1
  have e1 : A.doV s = A.nxV s.a := by unfold Ab.doV; rw [if_neg hk.1, if_neg hk.2.1, if_neg hk.2.2]
  have e2 : A.doE s = 0 := by unfold Ab.doE; rw [if_neg hk.1, if_neg hk.2.1, if_neg hk.2.2]
  have e3 : A.doA s = A.nx s.a := by unfold Ab.doA; rw [if_neg hk.1, if_neg hk.2.1, if_neg hk.2.2]
  rw [e1, e2, e3]
  clear e1 e2 e3
  have n0 : (s.kind == 0) = false := by simpa using hk.1
  have n1 : (s.kind == 1) = false := by simpa using hk.2.1
  have n2 : (s.kind == 2) = false := by simpa using hk.2.2
  have HW1 := Lib.hid hW1
  have HG1 := Lib.hid hg1
  have HB := Lib.hid b1
  unfold stpC at HW1
  unfold stpV ptrV
  clear b1 l1 hW1 hg1 H H1 hr hw hz hn hl hk
  unfold ptrV at hcon
  go_enter Try.func28, Try.ntmps28
  go_upto_region 1 with (fail)
  rw [show w.alloc _ = W1 from HW1.out, HG1.out]
  clear HW1 HG1
  go_wp2_with fail
  refine hcon.mono ?_
  rintro e w3 ⟨rfl, F', q1, q2, q3⟩
  have HE := Lib.hid (And.intro q1 (And.intro q2 q3))
  clear hcon q1 q2 q3
  go_wp2_with fail
  go_ret2
  obtain ⟨q1, q2, q3⟩ := HE.out
  exact ⟨rfl, F', q1.more (by omega), q2.mono HB.out.size, (Touch.of_below HB.out).trans q3 (fun _ _ h => h)⟩

theorem do_std (w : World) (h : Nat) (A : Ab) (z : Nat) (F : Nat → Prop) (s : Stp) (ra : Option Addr) (rc n : Nat) (hn : s.t.row.length = n) (hl : n ≤ 1000000) (hw : s.wf) (hr : SlL w ra rc s.t.row) (hz : z ≤ 80000) (H : Std w h A z F) :
    Calls Try.prog 28 #[stpV s (.slice ra n rc), ptrV h] w fun e w' => e = .returned (.tuple #[.int .i64 (A.doV s), .int .i64 (A.doE s)]) ∧ ∃ F', Std w' h (A.doA s) (z + 3) F' ∧ More w.heap.size F F' ∧ Touch F w w' := by
  by_cases h0 : s.kind = 0
  · exact do_put w h A z F s ra rc n hn hl hw hr hz H h0
  · by_cases h1 : s.kind = 1
    · exact do_kill w h A z F s ra rc n hn hl hw hr hz H h1
    · by_cases h2 : s.kind = 2
      · exact do_free w h A z F s ra rc n hn hl hw hr hz H h2
      · exact do_next w h A z F s ra rc n hn hl hw hr hz H ⟨h0, h1, h2⟩

end Go.Proofs.Ytkedkeelbbfmkaa
