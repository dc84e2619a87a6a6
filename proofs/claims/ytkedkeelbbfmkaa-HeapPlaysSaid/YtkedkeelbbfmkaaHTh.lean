/-
  Two lists of places beside a heap; a version and one of an argument are the same (stage 11).
-/
import Derived.Test.YtkedkeelbbfmkaaHPlace
import Derived.Test.YtkedkeelbbfmkaaHVis
namespace Go.Proofs.Ytkedkeelbbfmkaa
open Go.RowKit
set_option linter.unusedVariables false

/-- The heap, and two lists of places (ts: l, ls: m), in blocks of their own; the versions' rows lie below w. -/
structure Th (w W : World) (h : Nat) (A : Ab) (z : Nat) (ts : Value) (l : List Plc) (ls : Value) (m : List Plc) : Prop where
  one : One (fun k => ts.ownBlock = some k ∨ ls.ownBlock = some k) w W h A z
  tr : RowP (fun k => k < w.heap.size) W ts l
  lr : RowP (fun k => k < w.heap.size) W ls m
  ne : ∀ k, ts.ownBlock = some k → ls.ownBlock ≠ some k

section
variable {w W W' : World} {h z : Nat} {A : Ab} {ts ls : Value} {l m : List Plc}
theorem Th.below (H : Th w W h A z ts l ls m) (hb : Below W.heap.size W W') : Th w W' h A z ts l ls m := ⟨H.one.below hb, H.tr.below hb, H.lr.below hb, H.ne⟩
theorem Th.start (H : One (fun _ => False) w W h A z) : Th w W h A z (.slice none 0 0) [] (.slice none 0 0) [] :=
  ⟨H.foreign (Below.refl _ _) _ (fun k hk => by rcases hk with e | e <;> cases e), RowP.nil _ _, RowP.nil _ _, fun k hk => by cases hk⟩
/-- The second list is the first, and the second one is empty. -/
theorem Th.next (H : Th w W h A z ts l ls m) : Th w W h A z ls m (.slice none 0 0) [] :=
  ⟨by
    obtain ⟨F, h1, h2, h3, h4⟩ := H.one
    exact ⟨F, h1, h2, h3, fun k hk => by
      rcases hk with e | e
      · exact h4 k (.inr e)
      · cases e⟩, H.lr, RowP.nil _ _, fun k _ e => by cases e⟩
/-- The first list alone. -/
theorem Th.only (H : Th w W h A z ts l ls m) : Th w W h A z ts l (.slice none 0 0) [] :=
  ⟨by
    obtain ⟨F, h1, h2, h3, h4⟩ := H.one
    exact ⟨F, h1, h2, h3, fun k hk => by
      rcases hk with e | e
      · exact h4 k (.inl e)
      · cases e⟩, H.tr, RowP.nil _ _, fun k _ e => by cases e⟩
/-- A call on the heap. -/
theorem Th.did {A' : Ab} {z' : Nat} (H : Th w W h A z ts l ls m) (ho : One (fun k => ts.ownBlock = some k ∨ ls.ownBlock = some k) w W' h A' z') (hs : Stay (fun k => ts.ownBlock = some k ∨ ls.ownBlock = some k) W W') : Th w W' h A' z' ts l ls m := by
  have hw := H.one.bel.size
  have hs2 : Stay (fun k => (ts.ownBlock = some k ∨ ls.ownBlock = some k) ∨ k < w.heap.size) W W' := ⟨hs.size, fun k hk hG => by
    rcases hG with hG | hG
    · exact hs.block k hk hG
    · exact (ho.bel.block k hG).trans (H.one.bel.block k hG).symm⟩
  exact ⟨ho, H.tr.stay hs2 (fun k hk => .inl (.inl hk)) (fun k hk => .inr hk), H.lr.stay hs2 (fun k hk => .inl (.inr hk)) (fun k hk => .inr hk), H.ne⟩

/-- A place is appended to the second list: what comes of it. -/
theorem Th.push (H : Th w W h A z ts l ls m) (p : Plc) (a : Option Addr) (c : Nat) (hr : SlL W a c p.2.row) (hnew : p.2.row ≠ [] → ∀ b o, a = some ⟨b, o, none⟩ → b < w.heap.size) (hn : m.length ≤ 100000) :
    ∃ a' c' W6, (∀ ty, (Builtin.append_ #[59, 59] ty #[ls, .slice (some ⟨W.heap.size, 0, none⟩) 1 1]).run Try.prog (W.alloc (.cells (plC p (.slice a p.2.row.length c)).toArray 61)) = .ok (.slice a' (m.length + 1) c') W6) ∧
      Th w W6 h A z ts l (.slice a' (m.length + 1) c') (m ++ [p]) := by
  have hw := H.one.bel.size
  obtain ⟨a', c', W6, h1, h2, h3, h4⟩ := H.lr.push (R' := fun k => k < w.heap.size) p a c 59 hr (fun _ h => h) hnew H.lr.own (fun k hk => Nat.lt_of_lt_of_le hk hw) (by omega)
  have hge : ∀ k, ls.ownBlock = some k → w.heap.size ≤ k := fun k hk => by have := H.lr.own k hk; omega
  have hst := h3.stay (G := fun k => ts.ownBlock = some k ∨ k < w.heap.size) (fun k hk e => by
    rcases hk with hk | hk
    · exact H.ne k hk e
    · have := hge k e; omega)
  refine ⟨a', c', W6, fun ty => h1, ⟨H.one.app h3 (fun k hk => ⟨.inr hk, hge k hk⟩) (fun k hk => ?_), H.tr.stay hst (fun k hk => .inl hk) (fun k hk => .inr hk), h2, fun k hk e => ?_⟩⟩
  · rcases hk with e | e
    · exact ⟨.inl (.inl e), Nat.lt_of_lt_of_le (H.tr.lt k e) h3.size⟩
    · exact ⟨(h4 k e).imp .inr id, h2.lt k e⟩
  · rcases h4 k e with e | e
    · exact H.ne k hk e
    · have := H.tr.lt k hk; omega
/-- The first list's place. -/
theorem Th.swap (H : Th w W h A z ts l ls m) : Th w W h A z ls m ts l :=
  ⟨by
    obtain ⟨F, h1, h2, h3, h4⟩ := H.one
    exact ⟨F, h1, h2, h3, fun k hk => h4 k hk.symm⟩, H.lr, H.tr, fun k hk e => H.ne k e hk⟩
end

/-- The same step, later; its row's values lie where they lay. -/
theorem step_re2 {w0 w : World} {b o c i rn : Nat} {l : List Stp} {s : Stp} (hs : SlSt w0 (some ⟨b, o, none⟩) c l) (hb : Below w0.heap.size w0 w) (hst : l[i]? = some s) (hrn : s.t.row.length = rn) :
    ∃ ra rc, SlL w ra rc s.t.row ∧ (s.t.row ≠ [] → ∀ b2 o2, ra = some ⟨b2, o2, none⟩ → b2 < w0.heap.size) ∧ (b < w.heap.size ∧ b < w0.heap.size) ∧
      w.cell? ⟨b, o + i * 11, none⟩ = some (.int .u8 s.kind) ∧ w.cell? ⟨b, o + i * 11 + 1, none⟩ = some (.int .i64 s.t.no) ∧ w.cell? ⟨b, o + i * 11 + 2, none⟩ = some (.int .i64 s.t.id) ∧ w.cell? ⟨b, o + i * 11 + 3, none⟩ = some (.int .i64 s.t.mn) ∧ w.cell? ⟨b, o + i * 11 + 4, none⟩ = some (.int .i64 s.t.cm) ∧ w.cell? ⟨b, o + i * 11 + 5, none⟩ = some (.int .i64 s.t.mx) ∧ w.cell? ⟨b, o + i * 11 + 6, none⟩ = some (.int .i64 s.t.cx) ∧ w.cell? ⟨b, o + i * 11 + 7, none⟩ = some (.slice ra rn rc) ∧ w.cell? ⟨b, o + i * 11 + 8, none⟩ = some (.int .i64 s.slot) ∧ w.cell? ⟨b, o + i * 11 + 9, none⟩ = some (.int .i64 s.a) ∧ w.cell? ⟨b, o + i * 11 + 10, none⟩ = some (.int .i64 s.b) := by
  obtain ⟨b2, o2, e, hat⟩ := hs.get hst
  cases e
  obtain ⟨ra, rc, h2, h3, h4⟩ := hat
  have hc : ∀ j v, (stpC s (.slice ra s.t.row.length rc))[j]? = some v → w.cell? ⟨b, o + i * 11 + j, none⟩ = some v := fun j v hv => by
    rw [hb.cell (p := ⟨b, o + i * 11 + j, none⟩) h3]
    exact h4 j v hv
  rw [hrn] at hc
  exact ⟨ra, rc, h2.below hb, fun hl b2 o2 e => h2.lt hl e, ⟨Nat.lt_of_lt_of_le h3 hb.size, h3⟩, hc 0 _ rfl, hc 1 _ rfl, hc 2 _ rfl, hc 3 _ rfl, hc 4 _ rfl, hc 5 _ rfl, hc 6 _ rfl, hc 7 _ rfl, hc 8 _ rfl, hc 9 _ rfl, hc 10 _ rfl⟩

set_option maxRecDepth 100000 in
set_option maxHeartbeats 4000000 in
/-- A tuple is the same as itself, wherever each one's row lies. -/
theorem hsame_sl (w : World) (t : Tup) (a a' : Option Addr) (c c' n : Nat) (hn : t.row.length = n) (q1 : SlL w a c t.row) (q2 : SlL w a' c' t.row) :
    Calls Try.prog 24 #[tupV t (.slice a n c), tupV t (.slice a' n c')] w fun e w' => e = .returned (.bool true) ∧ Below w.heap.size w w' := by
  have b1 := Below.allocs w (.cells (tupC t (.slice a n c)).toArray 46)
  have l1 := Lit.new w 46 (tupC t (.slice a n c))
  obtain ⟨g1, hg1⟩ : ∃ g, w.heap.size = g := ⟨_, rfl⟩
  obtain ⟨W1, hW1⟩ : ∃ W, w.alloc (.cells (tupC t (.slice a n c)).toArray 46) = W := ⟨_, rfl⟩
  rw [hW1] at b1 l1
  rw [hg1] at l1
  have b2 := Below.allocs W1 (.cells (tupC t (.slice a' n c')).toArray 46)
  have l2 := Lit.new W1 46 (tupC t (.slice a' n c'))
  obtain ⟨g2, hg2⟩ : ∃ g, W1.heap.size = g := ⟨_, rfl⟩
  obtain ⟨W2, hW2⟩ : ∃ W, W1.alloc (.cells (tupC t (.slice a' n c')).toArray 46) = W := ⟨_, rfl⟩
  rw [hW2] at b2 l2
  rw [hg2] at l2
  have hb := below_tr b1 b2
  have l1' := l1.below b2
  have hcon := rsame_is a a' c c' n n t.row t.row true hn hn (by simp) W2 (q1.below hb) (q2.below hb)
  have c0 := l1'.cell (o := 0) rfl
  have c1 := l1'.cell (o := 1) rfl
  have c2 := l1'.cell (o := 2) rfl
  have c3 := l1'.cell (o := 3) rfl
  have c4 := l1'.cell (o := 4) rfl
  have c5 := l1'.cell (o := 5) rfl
  have c6 := l1'.cell (o := 6) rfl
  have d0 := l2.cell (o := 0) rfl
  have d1 := l2.cell (o := 1) rfl
  have d2 := l2.cell (o := 2) rfl
  have d3 := l2.cell (o := 3) rfl
  have d4 := l2.cell (o := 4) rfl
  have d5 := l2.cell (o := 5) rfl
  have d6 := l2.cell (o := 6) rfl
  have HB := Lib.hid hb
  have HW1 := Lib.hid hW1
  have HW2 := Lib.hid hW2
  have HG1 := Lib.hid hg1
  have HG2 := Lib.hid hg2
  have HSZ : Hid (W1.heap.size = g1 + 1) := Lib.hid (by rw [← hW1, ← hg1]; simp)
  unfold tupC at HW1 HW2
  unfold tupV
  clear b1 b2 l1 l2 l1' hW1 hW2 hg1 hg2 hb q1 q2 hn
  go_enter Try.func24, Try.ntmps24
  go_upto_region 1 with (fail)
  rw [show w.alloc _ = W1 from HW1.out, show W1.alloc _ = W2 from HW2.out, HG1.out]
  try rw [HG2.out]
  try rw [show g1 + 1 = g2 by rw [← HSZ.out]; exact HG2.out]
  clear HW1 HW2 HG1 HG2 HSZ
  go_wp2_with fail
  refine hcon.mono ?_
  rintro e w3 ⟨rfl, hb3⟩
  have HE := Lib.hid (below_tr HB.out hb3)
  clear hcon hb3
  go_wp2_with fail
  go_ret
  exact ⟨rfl, HE.out⟩

end Go.Proofs.Ytkedkeelbbfmkaa
