/-
  Copy: walked.
-/
import Derived.Test.YtfikaccgpjiedaaJJ29
namespace Go.Proofs.Ytfikaccgpjiedaa
open Go.RowKit Go.Lib

theorem clone_nil_is (w : World) : Calls Try.prog 37 #[.pointer none] w fun e w' => e = .returned (.pointer none) ∧ Below w.heap.size w w' := by
  go_enter Try.func37, Try.ntmps37
  go_wp2_with fail
  go_ret
  exact ⟨rfl, Below.refl _ _⟩

/-- What clone leaves of a root. -/
def RootCopy (w w' : World) (L : List Ent) (r : Value) : Prop :=
  Below w.heap.size w w' ∧ ((r = .pointer none ∧ L = []) ∨ ∃ (h : Nat) (n : Nd (Kid h)) (K : Nat → Prop), r = .pointer (some ⟨n.g, 0, none⟩) ∧ Tree (h + 1) 1 7 w' K n ∧ entN (h + 1) n = L ∧ (∀ k p, foot (h + 1) n k p → w.heap.size ≤ k) ∧ ∀ k, K k → w.heap.size ≤ k)

theorem clone_root_is {W : World} {g : Nat} {r : Value} {L : List Ent} {F : Nat → Prop} (hr : RootIs W g r L F) (w : World) (hb : Below W.heap.size W w) : Calls Try.prog 37 #[r] w fun e w' => ∃ q : Option Addr, e = .returned (.pointer q) ∧ RootCopy w w' L (.pointer q) := by
  rcases hr with ⟨rfl, rfl⟩ | ⟨h, n, K, rfl, t, rfl, _, _⟩
  · refine (clone_nil_is w).mono ?_
    rintro e w' ⟨rfl, hb⟩
    exact ⟨_, rfl, hb, .inl ⟨rfl, rfl⟩⟩
  · refine (clone_is (h + 1) n 1 7 K w (by omega) (t.below hb)).mono ?_
    rintro e w' ⟨n', K', rfl, hb', t', he, hf, hk⟩
    exact ⟨_, rfl, hb', .inr ⟨h, n', K', rfl, t', he, hf, hk⟩⟩

theorem RootCopy.top {w w3 w4 : World} {L : List Ent} {r : Value} (h1 : r.oneCell' = true) (h : RootCopy w w3 L r) (h4 : w3.alloc (.cells #[r, .int .i64 (L.length : Int)] 53) = w4) : Top w4 w3.heap.size L (fun k => w.heap.size ≤ k ∧ k < w4.heap.size) := by
  have hbx := Lit.new w3 [r, .int .i64 (L.length : Int)] 53 (by intro v hv; simp at hv; rcases hv with rfl | rfl <;> first | exact h1 | rfl)
  rw [show ([r, Value.int .i64 (L.length : Int)] : List Value).toArray = (#[r, .int .i64 (L.length : Int)] : Array Value) from rfl, h4] at hbx
  have hb4 : Below w3.heap.size w3 w4 := by rw [← h4]; exact Below.allocs _ _
  have hs4 : w4.heap.size = w3.heap.size + 1 := by rw [← h4, World.size_alloc]
  obtain ⟨hb, hr⟩ := h
  have hsz := hb.size
  refine ⟨⟨r, hbx, ?_⟩, ⟨hsz, by omega⟩, fun k hk => hk.2⟩
  rcases hr with ⟨rfl, rfl⟩ | ⟨h, n, K, rfl, t, he, hf, hk⟩
  · exact .inl ⟨rfl, rfl⟩
  · refine .inr ⟨h, n, K, rfl, t.below hb4, he, fun k p hx => ?_, fun k hx => ?_⟩
    · have := t.inn.lt k p hx
      exact ⟨⟨hf k p hx, by omega⟩, by omega⟩
    · have := t.klt k hx
      exact ⟨⟨hk k hx, by omega⟩, by omega⟩

set_option maxRecDepth 100000 in
theorem tcopy_is (w : World) (g : Nat) (L : List Ent) (F : Nat → Prop) (ht : Top w g L F) :
    Calls Try.prog 24 #[nodeV g] w fun e w' => ∃ g' F', e = .returned (nodeV g') ∧ Top w' g' L F' ∧ (∀ k, F' k → w.heap.size ≤ k) ∧ Below w.heap.size w w' := by
  have mixed : Try.prog.follows Departure.mixedOrders = true := by kernel_rfl
  obtain ⟨r, hl, hr⟩ := ht.lit
  obtain ⟨m, hm⟩ : ∃ m : Int, (L.length : Int) = m := ⟨_, rfl⟩
  rw [hm] at hl
  obtain ⟨c0, c1, _, _⟩ := hl.two
  have hlt := hl.lt
  have HCL := Lib.hid fun W (hb : Below w.heap.size w W) => clone_root_is hr W hb
  have HM := Lib.hid hm
  have HLT := Lib.hid hlt
  have HS0 : Hid (w.drew.cell? ⟨g, 0, none⟩ = some r ∧ w.drew.cell? ⟨g, 1, none⟩ = some (.int .i64 m)) := Lib.hid ⟨c0, c1⟩
  unfold nodeV
  clear hl hr hm ht
  go_enter Try.func24, Try.ntmps24
  go_wp2_with fail
  clear c0 c1 hlt
  refine RX.wp_region_lastH 11 (fun W => W.cell? ⟨g, 0, none⟩ = some r ∧ W.cell? ⟨g, 1, none⟩ = some (.int .i64 m)) mixed (by kernel_rfl) ?_
  simp only [List.take_succ_cons, List.take_zero, List.drop_succ_cons, List.drop_zero]
  refine wpAnyH_take (i := 0) (oi := _) (v := .pointer (some ⟨g, 0, none⟩)) rfl (by kernel_rfl) (by kernel_rfl) (by kernel_rfl) (fun _ _ _ h => h) (Or.inl ⟨by rfl, fun w' hw' => ?_⟩) (HS0.out) ?_
  · go_simp
    try first | with_reducible rfl | simp
  refine wpAnyH_take (i := 1) (oi := _) (v := .pointer (some ⟨g, 0, none⟩)) rfl (by kernel_rfl) (by kernel_rfl) (by kernel_rfl) (fun _ _ _ h => h) (Or.inl ⟨by rfl, fun w' hw' => ?_⟩) (HS0.out) ?_
  · go_simp
    try first | with_reducible rfl | simp
  refine wpAnyH_take (i := 2) (oi := _) (v := .pointer (some ⟨g, 0, none⟩)) rfl (by kernel_rfl) (by kernel_rfl) (by kernel_rfl) (fun _ _ _ h => h) (Or.inl ⟨by rfl, fun w' hw' => ?_⟩) (HS0.out) ?_
  · go_simp
    try first | with_reducible rfl | simp
  refine wpAnyH_take (i := 3) (oi := _) (v := r) rfl (by kernel_rfl) (by kernel_rfl) (by kernel_rfl) (fun _ _ _ h => h) (Or.inl ⟨by rfl, fun w' hw' => ?_⟩) (HS0.out) ?_
  · obtain ⟨j0, j1⟩ := hw'
    go_simp
    try first | with_reducible rfl | simp
  refine wpAnyH_take (i := 5) (oi := _) (v := .pointer (some ⟨g, 0, none⟩)) rfl (by kernel_rfl) (by kernel_rfl) (by kernel_rfl) (fun _ _ _ h => h) (Or.inl ⟨by rfl, fun w' hw' => ?_⟩) (HS0.out) ?_
  · go_simp
    try first | with_reducible rfl | simp
  refine wpAnyH_take (i := 6) (oi := _) (v := .pointer (some ⟨g, 0, none⟩)) rfl (by kernel_rfl) (by kernel_rfl) (by kernel_rfl) (fun _ _ _ h => h) (Or.inl ⟨by rfl, fun w' hw' => ?_⟩) (HS0.out) ?_
  · go_simp
    try first | with_reducible rfl | simp
  refine wpAnyH_take (i := 7) (oi := _) (v := .pointer (some ⟨g, 1, none⟩)) rfl (by kernel_rfl) (by kernel_rfl) (by kernel_rfl) (fun _ _ _ h => h) (Or.inl ⟨by rfl, fun w' hw' => ?_⟩) (HS0.out) ?_
  · go_simp
    try first | with_reducible rfl | simp
  refine wpAnyH_take (i := 8) (oi := _) (v := .int .i64 m) rfl (by kernel_rfl) (by kernel_rfl) (by kernel_rfl) (fun _ _ _ h => h) (Or.inl ⟨by rfl, fun w' hw' => ?_⟩) (HS0.out) ?_
  · obtain ⟨j0, j1⟩ := hw'
    go_simp
    try first | with_reducible rfl | simp
  refine RX.anyH_call (i := 4) (f := 37) (args := #[r]) (by kernel_rfl) rfl (by rfl) (by go_simp) ?_
  refine (show Calls Try.prog _ _ _ _ from HCL.out _ (below_drw w)).mono ?_
  rintro e w3 ⟨q, rfl, hrc⟩
  have HRC := Lib.hid hrc
  have HB3 := Lib.hid (below_tr (below_drw w) hrc.1)
  have HS3 : Hid (w3.cell? ⟨g, 0, none⟩ = some r ∧ w3.cell? ⟨g, 1, none⟩ = some (.int .i64 m)) := Lib.hid (by
    obtain ⟨q0, q1⟩ := HS0.out
    exact ⟨by rw [hrc.1.cell (p := ⟨g, 0, none⟩) HLT.out]; exact q0, by rw [hrc.1.cell (p := ⟨g, 1, none⟩) HLT.out]; exact q1⟩)
  have hb4 := Below.allocs w3 (.cells #[.pointer q, .int .i64 m] 53)
  have HS4 : Hid ((w3.alloc (.cells #[.pointer q, .int .i64 m] 53)).cell? ⟨g, 0, none⟩ = some r ∧ (w3.alloc (.cells #[.pointer q, .int .i64 m] 53)).cell? ⟨g, 1, none⟩ = some (.int .i64 m)) := Lib.hid (by
    obtain ⟨q0, q1⟩ := HS3.out
    have hl3 := Nat.lt_of_lt_of_le HLT.out HB3.out.size
    exact ⟨by rw [hb4.cell (p := ⟨g, 0, none⟩) hl3]; exact q0, by rw [hb4.cell (p := ⟨g, 1, none⟩) hl3]; exact q1⟩)
  have HB4 := Lib.hid (below_tr HB3.out hb4)
  clear hrc hb4
  refine ⟨_, rfl, HS3.out, ?_⟩
  refine wpAnyH_take (i := 9) (oi := _) (v := .agg #[.pointer q, .int .i64 m]) rfl (by kernel_rfl) (by kernel_rfl) (by kernel_rfl) (fun _ _ _ h => h) (Or.inl ⟨by rfl, fun w' hw' => ?_⟩) (HS3.out) ?_
  · go_simp
    try first | with_reducible rfl | simp
  refine RX.anyH_val (i := 10) (v := .pointer (some ⟨w3.heap.size, 0, none⟩)) (w' := w3.alloc (.cells #[.pointer q, .int .i64 m] 53)) (by kernel_rfl) rfl (by rfl) (by go_simp; (try first | with_reducible rfl | simp)) (HS4.out) ?_
  refine wpAnyH_done (by kernel_rfl) ?_ _
  unfold RX.lastQ
  go_wp2_with fail
  go_ret
  obtain ⟨w4, hw4⟩ : ∃ w4, w3.alloc (.cells #[.pointer q, .int .i64 m] 53) = w4 := ⟨_, rfl⟩
  have hb4 := HB4.out
  rw [hw4] at hb4 ⊢
  rw [← HM.out] at hw4
  exact ⟨w3.heap.size, _, rfl, HRC.out.top rfl hw4, fun k hk => hk.1, hb4⟩

end Go.Proofs.Ytfikaccgpjiedaa

/-
  Put: walked.
-/
namespace Go.Proofs.Ytfikaccgpjiedaa
open Go.RowKit Go.Lib

/-- A tree that has a root. -/
theorem TopAt.start {w : World} {F : Nat → Prop} {g : Nat} {L : List Ent} {h : Nat} {n : Nd (Kid h)} {K : Nat → Prop} (ht : Top w g L F) (hl : Lit w g [.pointer (some ⟨n.g, 0, none⟩), .int .i64 (L.length : Int)]) (t : Tree (h + 1) 1 7 w K n) (he : entN (h + 1) n = L) (hf : ∀ k p, foot (h + 1) n k p → F k ∧ k ≠ g) (hk : ∀ k, K k → F k ∧ k ≠ g) :
    TopAt w F g (L.length : Int) L 1 7 h n K w :=
  ⟨hl, t, he, fun k p h => ⟨.inl (hf k p h).1, (hf k p h).2⟩, fun k h => ⟨.inl (hk k h).1, (hk k h).2⟩, ht.mine, ht.lt, Touch.refl _ _⟩

/-- A root of no entries. -/
theorem TopAt.bare {w W1 W2 : World} {F : Nat → Prop} {g : Nat} (ht : Top w g [] F) {r : Value} (hl : Lit w g [r, .int .i64 0]) (h1 : w.alloc (.cells #[.slice none 0 0, .slice none 0 0] 56) = W1) (h2 : W1.setCell ⟨g, 0, none⟩ (.pointer (some ⟨w.heap.size, 0, none⟩)) = W2) :
    TopAt w F g 0 [] 0 7 0 (⟨w.heap.size, none, 0, none, 0, [], []⟩ : Nd (Kid 0)) (fun _ => False) W2 := by
  have hbx := Lit.new w [.slice none 0 0, .slice none 0 0] 56 (by intro v hv; simp at hv; subst hv; rfl)
  rw [show ([Value.slice none 0 0, Value.slice none 0 0] : List Value).toArray = (#[.slice none 0 0, .slice none 0 0] : Array Value) from rfl, h1] at hbx
  have hb1 : Below w.heap.size w W1 := by rw [← h1]; exact Below.allocs _ _
  have hlt := hl.lt
  have tc : TouchC (fun k _ => k = g) W1 W2 := by rw [← h2]; exact TouchC.setCell (F := fun k _ => k = g) (TouchC.refl _ _) rfl _
  have hb2 : Lit W2 w.heap.size [.slice none 0 0, .slice none 0 0] := hbx.touch tc (fun p hp => by omega)
  obtain ⟨q0, q1, _, _⟩ := hb2.two
  have hfoot : ∀ k p, foot 1 (⟨w.heap.size, none, 0, none, 0, [], []⟩ : Nd (Kid 0)) k p → k = w.heap.size := by
    rintro k p (hx | ⟨d, _, _⟩)
    · rcases hx with hx | hx | hx
      · exact hx.1
      · exact absurd hx (slf_nil _ _ _ _)
      · exact absurd hx (slf_nil _ _ _ _)
    · exact Empty.elim d
  refine ⟨by rw [← h2]; exact lit_put0 (hl.below hb1) rfl, ⟨InN.mk ⟨q0, q1, hb2.fz, RowS.nil _ _, RowS.nil _ _, fun k p _ hf => slf_nil _ _ _ _ hf, fun k p _ hf => slf_nil _ _ _ _ hf, fun k p hf _ => slf_nil _ _ _ _ hf⟩ (fun k p _ hf => footL_nil _ _ _ hf) (kids_nil _ _), ⟨Nat.le_refl _, Nat.zero_le _, fun h => absurd rfl h, fun _ h => absurd h List.not_mem_nil⟩, List.Pairwise.nil, fun _ h => absurd h List.not_mem_nil, fun _ _ _ h => h, fun _ h => h.elim⟩, rfl, fun k p hf => ?_, fun _ h => h.elim, ht.mine, ht.lt, ?_⟩
  · have := hfoot k p hf
    exact ⟨.inr (Nat.le_of_eq this.symm), by omega⟩
  · exact (Touch.of_below hb1).trans (tc.touch (G := fun k => k = g) (fun _ _ _ h => h)) (fun k _ h => by rw [h]; exact ht.mine)

theorem TopAt.at {w : World} {F : Nat → Prop} {g : Nat} {m m' : Int} {L : List Ent} {lo hi h : Nat} {n : Nd (Kid h)} {K : Nat → Prop} {W : World} (t : TopAt w F g m L lo hi h n K W) (e : m = m') : TopAt w F g m' L lo hi h n K W := e ▸ t

theorem insS_len {x : Ent} : ∀ {l : List Ent}, x ∉ l → (insS ltE x l).length = l.length + 1
  | [], _ => rfl
  | y :: l, hx => by
      unfold insS
      split
      · simp only [List.length_cons]
        rw [insS_len (fun h => hx (List.mem_cons_of_mem _ h))]
      · split
        · next h => exact absurd (by rw [h]; exact List.mem_cons_self ..) hx
        · rfl
theorem insS_ne (x : Ent) (l : List Ent) : insS ltE x l ≠ [] := fun h => by
  have h1 : x ∈ insS ltE x l := (mem_insS x x l).2 (.inl rfl)
  rw [h] at h1
  cases h1

set_option maxRecDepth 100000 in
set_option maxHeartbeats 4000000 in
theorem tput_is (w : World) (g : Nat) (L : List Ent) (F G : Nat → Prop) (a : Option Addr) (c kn : Nat) (key : List Val) (id : Int) (z : Bool) (hn : key.length = kn) (hn2 : kn ≤ 7500) (hL : L.length ≤ 2000) (hk : SlG G w a c key) (hG : ∀ k, G k → ¬ F k) (hid : I64 id) (hz : decide ((⟨key, id⟩ : Ent) ∉ L) = z) (ht : Top w g L F) :
    Calls Try.prog 10 #[nodeV g, .slice a kn c, .int .i64 id] w fun e w' => ∃ F', e = .returned (.bool z) ∧ Top w' g (insS ltE ⟨key, id⟩ L) F' ∧ (∀ k, F' k → F k ∨ w.heap.size ≤ k) ∧ Touch F w w' := by
  obtain ⟨r, hl, hr⟩ := ht.lit
  obtain ⟨m, hm⟩ : ∃ m, L.length = m := ⟨_, rfl⟩
  have HM := Lib.hid hm
  have hm9 : m ≤ 2000 := by omega
  have HKEY := Lib.hid hk
  have HG := Lib.hid hG
  have HZ := Lib.hid hz
  have HID := Lib.hid hid
  have HN := Lib.hid hn
  unfold nodeV
  clear hk hG hz hid hn
  rcases hr with ⟨rfl, hL0⟩ | ⟨h, n, K, rfl, t, he, hf, hkk⟩
  · subst hL0
    obtain rfl : m = 0 := by rw [← hm]; rfl
    obtain ⟨W1, h1⟩ : ∃ W1, w.alloc (.cells #[.slice none 0 0, .slice none 0 0] 56) = W1 := ⟨_, rfl⟩
    obtain ⟨W, h2⟩ : ∃ W, W1.setCell ⟨g, 0, none⟩ (.pointer (some ⟨w.heap.size, 0, none⟩)) = W := ⟨_, rfl⟩
    have T := Lib.hid (TopAt.bare ht hl h1 h2)
    have H2 : Hid ((w.setCell ⟨g, 0, none⟩ (.pointer (some ⟨w.heap.size, 0, none⟩))).alloc (.cells #[.slice none 0 0, .slice none 0 0] 56) = W) := Lib.hid (by rw [← h2, ← h1, World.setCell_alloc_past _ _ _ _ hl.lt])
    have c0 := hl.two.1
    have f0 := hl.two.2.2.1
    have hlt := hl.lt
    have hbx := (Lit.new w [.slice none 0 0, .slice none 0 0] 56 (by intro v hv; simp at hv; subst hv; rfl)).lt
    rw [show ([Value.slice none 0 0, Value.slice none 0 0] : List Value).toArray = (#[.slice none 0 0, .slice none 0 0] : Array Value) from rfl] at hbx
    clear hl ht h1 h2 hm
    go_enter Try.func10, Try.ntmps10
    go_upto_region 5 with (fail)
    rw [H2.out]
    clear c0 f0 hlt hbx
    have glt := T.out.lit.lt
    obtain ⟨c0, c1, f0, f1⟩ := T.out.lit.two
    have hput := fun W' (hb : Below W.heap.size W W') => put_is 0 (⟨w.heap.size, none, 0, none, 0, [], []⟩ : Nd (Kid 0)) 0 (fun _ => False) a c kn key id z W' (T.out.below hb).tree (fun h => absurd rfl h) HN.out (by omega) ((HKEY.out.stay (T.out.touch.stay HG.out)).below hb).sl HID.out (by rw [T.out.ent]; exact HZ.out)
    have HPUT := Lib.hid hput
    clear hput
    go_wp2_with fail
    refine (HPUT.out _ (Below.refl _ _)).mono ?_
    rintro e W2 ⟨rfl, n', K', hr2, t2, he2, hK1, hK2⟩
    have he3 : entN (0 + 1) n' = insS ltE ⟨key, id⟩ [] := by rw [he2, T.out.ent]
    have hpos : 1 ≤ n'.es.length := es_pos t2 (fun h => absurd rfl h) (by rw [he3]; exact insS_ne _ _)
    have T2 := Lib.hid (T.out.res hr2 t2 he3 hK2)
    have HPOS := Lib.hid hpos
    clear c0 c1 f0 f1 glt hr2 t2 he2 he3 hK1 hK2 hpos
    cases z with
    | false =>
      have hx : (⟨key, id⟩ : Ent) ∈ [] := by have := of_decide_eq_false HZ.out; exact Classical.not_not.1 this
      have hins : insS ltE ⟨key, id⟩ [] = [] := insS_has sloE (by rw [← T.out.ent]; exact T.out.tree.srt) hx
      have hend : ∃ F', Top W2 g (insS ltE ⟨key, id⟩ []) F' ∧ (∀ k, F' k → F k ∨ w.heap.size ≤ k) ∧ Touch F w W2 := by
        exact (T2.out.at (by have h0 := HM.out; rw [hins]; omega)).top HPOS.out T2.out.tree.wf.2.1
      have HEND := Lib.hid hend
      clear hx hins hend
      go_wp2_with fail
      go_ret
      obtain ⟨F', q⟩ := HEND.out
      exact ⟨F', rfl, q⟩
    | true =>
      have hx : (⟨key, id⟩ : Ent) ∉ [] := of_decide_eq_true HZ.out
      have HL' : Hid ((insS ltE ⟨key, id⟩ []).length = 0 + 1) := Lib.hid (by rw [insS_len hx, HM.out])
      obtain ⟨c0, c1, f0, f1⟩ := T2.out.lit.two
      have glt := T2.out.lit.lt
      obtain ⟨M, hM⟩ : ∃ M, n'.es.length = M := ⟨_, rfl⟩
      have e0 := T2.out.tree.inn.self.g0
      rw [hM] at e0
      have nlt := T2.out.tree.inn.self.lt
      have hM8 : M ≤ 8 := by rw [← hM]; exact T2.out.tree.wf.2.1
      have HMM := Lib.hid hM
      clear hx hM
      by_cases h7 : M ≤ 7
      · have z7 : ¬ (7 : Int) < (M : Int) := by omega
        have hend : ∃ F', Top (W2.setCell ⟨g, 1, none⟩ (.int .i64 1)) g (insS ltE ⟨key, id⟩ []) F' ∧ (∀ k, F' k → F k ∨ w.heap.size ≤ k) ∧ Touch F w (W2.setCell ⟨g, 1, none⟩ (.int .i64 1)) := by
          exact ((T2.out.set 1).at (by rw [HL'.out]; omega)).top HPOS.out (by rw [HMM.out]; exact h7)
        have HEND := Lib.hid hend
        clear hend
        go_wp2_with fail
        go_ret
        obtain ⟨F', q⟩ := HEND.out
        exact ⟨F', rfl, q⟩
      · obtain rfl : M = 8 := by omega
        obtain ⟨b, hb⟩ : ∃ b, W2.heap.size = b := ⟨_, rfl⟩
        obtain ⟨V1, hV1⟩ : ∃ V1, W2.alloc (.cells #[.pointer (some ⟨n'.g, 0, none⟩)] 51) = V1 := ⟨_, rfl⟩
        obtain ⟨V2, hV2⟩ : ∃ V2, V1.alloc (.cells #[.slice none 0 0, .slice (some ⟨b, 0, none⟩) 1 1] 56) = V2 := ⟨_, rfl⟩
        obtain ⟨W4, hW4⟩ : ∃ W4, V2.setCell ⟨g, 0, none⟩ (.pointer (some ⟨b + 1, 0, none⟩)) = W4 := ⟨_, rfl⟩
        obtain ⟨n1, hn1⟩ : ∃ n1 : Nd (Nd (Kid 0)), (⟨b + 1, none, 0, some ⟨b, 0, none⟩, 1, [], [n']⟩ : Nd (Nd (Kid 0))) = n1 := ⟨_, rfl⟩
        have s1 : V1.heap.size = b + 1 := by rw [← hV1, World.size_alloc, hb]
        have lk : Lit V1 b [.pointer (some ⟨n'.g, 0, none⟩)] := by
          have h := Lit.new W2 [.pointer (some ⟨n'.g, 0, none⟩)] 51 (by intro v hv; simp at hv; subst hv; rfl)
          rw [show ([Value.pointer (some ⟨n'.g, 0, none⟩)] : List Value).toArray = (#[.pointer (some ⟨n'.g, 0, none⟩)] : Array Value) from rfl, hV1, hb] at h
          exact h
        have lr : Lit V2 (b + 1) [.slice none 0 0, .slice (some ⟨b, 0, none⟩) 1 1] := by
          have h := Lit.new V1 [.slice none 0 0, .slice (some ⟨b, 0, none⟩) 1 1] 56 (by intro v hv; simp at hv; rcases hv with rfl | rfl <;> rfl)
          rw [show ([Value.slice none 0 0, Value.slice (some ⟨b, 0, none⟩) 1 1] : List Value).toArray = (#[.slice none 0 0, .slice (some ⟨b, 0, none⟩) 1 1] : Array Value) from rfl, hV2, s1] at h
          exact h
        have b1 : Below W2.heap.size W2 V1 := by rw [← hV1]; exact Below.allocs _ _
        have b2 : Below V1.heap.size V1 V2 := by rw [← hV2]; exact Below.allocs _ _
        have hgrow := T2.out.grow HMM.out b (below_tr b1 b2) (Nat.le_of_eq hb) (lk.below b2) lr n1 hn1 hW4
        obtain ⟨x4, hx4⟩ : ∃ x, n'.es[4]? = some x := ⟨n'.es[4]'(by rw [HMM.out]; omega), by simp⟩
        have htorn := hgrow.1
        have hsplit := split_is 0 n1 [] [] n' [] [] 0 4 x4 W4 htorn.inn htorn.ks rfl (by rw [← hn1]; rfl) rfl (by have := htorn.top; omega) (by rw [HMM.out]; omega) (by rw [HMM.out]; omega) (by have := htorn.len; have := htorn.top; omega) (fun hh => kid_len htorn.wfc hh) (by rw [HMM.out]) hx4
        have hn1g : n1.g = b + 1 := by rw [← hn1]
        rw [hn1g] at hsplit
        have HSPLIT := Lib.hid hsplit
        have HGROW := Lib.hid (fun W5 => hgrow.2 W5 x4 hx4)
        have glt4 : g < W4.heap.size := by have := below_tr b1 b2; rw [← hW4]; simp [World.setCell]; exact Nat.lt_of_lt_of_le glt this.size
        have c04 : W4.cell? ⟨g, 0, none⟩ = some (.pointer (some ⟨b + 1, 0, none⟩)) := by
          rw [← hW4]
          exact World.cell?_setCell_same _ _ _ (by rw [(below_tr b1 b2).cell (p := ⟨g, 0, none⟩) glt]; exact c0)
        have HW4 : Hid (((W2.setCell ⟨g, 0, none⟩ (.pointer (some ⟨b + 1, 0, none⟩))).alloc (.cells #[.pointer (some ⟨n'.g, 0, none⟩)] 51)).alloc (.cells #[.slice none 0 0, .slice (some ⟨b, 0, none⟩) 1 1] 56) = W4) := Lib.hid (by
          rw [← hW4, ← hV2, World.setCell_alloc_past _ _ _ _ (by rw [s1]; omega), ← hV1, World.setCell_alloc_past _ _ _ _ glt])
        have HB := Lib.hid hb
        have HGLT4 := Lib.hid (And.intro glt4 c04)
        clear hb hV1 hV2 hW4 s1 lk lr b1 b2 hgrow htorn hsplit hx4 hn1 hn1g glt4 c04
        go_upto_region 9 with (fail)
        simp only [HB.out]
        rw [HW4.out]
        obtain ⟨glt4, c04⟩ := HGLT4.out
        clear c0 c1 f0 f1 glt e0 nlt
        go_wp2_with fail
        refine HSPLIT.out.mono ?_
        rintro e W5 ⟨rfl, hs5⟩
        obtain ⟨n2, hn2l, t5⟩ := HGROW.out W5 hs5
        obtain ⟨c0, c1, f0, f1⟩ := t5.lit.two
        have glt := t5.lit.lt
        have hend : ∃ F', Top (W5.setCell ⟨g, 1, none⟩ (.int .i64 1)) g (insS ltE ⟨key, id⟩ []) F' ∧ (∀ k, F' k → F k ∨ w.heap.size ≤ k) ∧ Touch F w (W5.setCell ⟨g, 1, none⟩ (.int .i64 1)) := by
          exact ((t5.set 1).at (by rw [HL'.out]; omega)).top (by omega) (by omega)
        have HEND := Lib.hid hend
        clear hend hs5 t5 glt4 c04
        go_wp2_with fail
        go_ret
        obtain ⟨F', q⟩ := HEND.out
        exact ⟨F', rfl, q⟩
  · have T := Lib.hid (TopAt.start ht hl t he hf hkk)
    rw [hm] at T
    obtain ⟨c0, c1, f0, f1⟩ := T.out.lit.two
    have hlt := T.out.lit.lt
    clear hl ht t he hf hkk hm
    go_enter Try.func10, Try.ntmps10
    go_upto_region 5 with (fail)
    clear c0 c1 f0 f1 hlt
    have glt := T.out.lit.lt
    obtain ⟨c0, c1, f0, f1⟩ := T.out.lit.two
    have hput := fun W' (hb : Below w.heap.size w W') => put_is h n 1 K a c kn key id z W' (T.out.below hb).tree (fun _ => Nat.le_refl _) HN.out (by omega) ((HKEY.out.stay (T.out.touch.stay HG.out)).below hb).sl HID.out (by rw [T.out.ent]; exact HZ.out)
    have HPUT := Lib.hid hput
    clear hput
    go_wp2_with fail
    refine (HPUT.out _ (Below.refl _ _)).mono ?_
    rintro e W2 ⟨rfl, n', K', hr2, t2, he2, hK1, hK2⟩
    have he3 : entN (h + 1) n' = insS ltE ⟨key, id⟩ L := by rw [he2, T.out.ent]
    have hpos : 1 ≤ n'.es.length := es_pos t2 (fun _ => Nat.le_refl _) (by rw [he3]; exact insS_ne _ _)
    have T2 := Lib.hid (T.out.res hr2 t2 he3 hK2)
    have HPOS := Lib.hid hpos
    clear c0 c1 f0 f1 glt hr2 t2 he2 he3 hK1 hK2 hpos
    cases z with
    | false =>
      have hx : (⟨key, id⟩ : Ent) ∈ L := by have := of_decide_eq_false HZ.out; exact Classical.not_not.1 this
      have hins : insS ltE ⟨key, id⟩ L = L := insS_has sloE (by rw [← T.out.ent]; exact T.out.tree.srt) hx
      have hend : ∃ F', Top W2 g (insS ltE ⟨key, id⟩ L) F' ∧ (∀ k, F' k → F k ∨ w.heap.size ≤ k) ∧ Touch F w W2 := by
        exact (T2.out.at (by have h0 := HM.out; rw [hins]; omega)).top HPOS.out T2.out.tree.wf.2.1
      have HEND := Lib.hid hend
      clear hx hins hend
      go_wp2_with fail
      go_ret
      obtain ⟨F', q⟩ := HEND.out
      exact ⟨F', rfl, q⟩
    | true =>
      have hx : (⟨key, id⟩ : Ent) ∉ L := of_decide_eq_true HZ.out
      have HL' : Hid ((insS ltE ⟨key, id⟩ L).length = m + 1) := Lib.hid (by rw [insS_len hx, HM.out])
      obtain ⟨c0, c1, f0, f1⟩ := T2.out.lit.two
      have glt := T2.out.lit.lt
      obtain ⟨M, hM⟩ : ∃ M, n'.es.length = M := ⟨_, rfl⟩
      have e0 := T2.out.tree.inn.self.g0
      rw [hM] at e0
      have nlt := T2.out.tree.inn.self.lt
      have hM8 : M ≤ 8 := by rw [← hM]; exact T2.out.tree.wf.2.1
      have HMM := Lib.hid hM
      clear hx hM
      by_cases h7 : M ≤ 7
      · have z7 : ¬ (7 : Int) < (M : Int) := by omega
        have hend : ∃ F', Top (W2.setCell ⟨g, 1, none⟩ (.int .i64 ((m : Int) + 1))) g (insS ltE ⟨key, id⟩ L) F' ∧ (∀ k, F' k → F k ∨ w.heap.size ≤ k) ∧ Touch F w (W2.setCell ⟨g, 1, none⟩ (.int .i64 ((m : Int) + 1))) := by
          exact ((T2.out.set ((m : Int) + 1)).at (by rw [HL'.out]; omega)).top HPOS.out (by rw [HMM.out]; exact h7)
        have HEND := Lib.hid hend
        clear hend
        go_wp2_with fail
        go_ret
        obtain ⟨F', q⟩ := HEND.out
        exact ⟨F', rfl, q⟩
      · obtain rfl : M = 8 := by omega
        obtain ⟨b, hb⟩ : ∃ b, W2.heap.size = b := ⟨_, rfl⟩
        obtain ⟨V1, hV1⟩ : ∃ V1, W2.alloc (.cells #[.pointer (some ⟨n'.g, 0, none⟩)] 51) = V1 := ⟨_, rfl⟩
        obtain ⟨V2, hV2⟩ : ∃ V2, V1.alloc (.cells #[.slice none 0 0, .slice (some ⟨b, 0, none⟩) 1 1] 56) = V2 := ⟨_, rfl⟩
        obtain ⟨W4, hW4⟩ : ∃ W4, V2.setCell ⟨g, 0, none⟩ (.pointer (some ⟨b + 1, 0, none⟩)) = W4 := ⟨_, rfl⟩
        obtain ⟨n1, hn1⟩ : ∃ n1 : Nd (Nd (Kid h)), (⟨b + 1, none, 0, some ⟨b, 0, none⟩, 1, [], [n']⟩ : Nd (Nd (Kid h))) = n1 := ⟨_, rfl⟩
        have s1 : V1.heap.size = b + 1 := by rw [← hV1, World.size_alloc, hb]
        have lk : Lit V1 b [.pointer (some ⟨n'.g, 0, none⟩)] := by
          have h := Lit.new W2 [.pointer (some ⟨n'.g, 0, none⟩)] 51 (by intro v hv; simp at hv; subst hv; rfl)
          rw [show ([Value.pointer (some ⟨n'.g, 0, none⟩)] : List Value).toArray = (#[.pointer (some ⟨n'.g, 0, none⟩)] : Array Value) from rfl, hV1, hb] at h
          exact h
        have lr : Lit V2 (b + 1) [.slice none 0 0, .slice (some ⟨b, 0, none⟩) 1 1] := by
          have h := Lit.new V1 [.slice none 0 0, .slice (some ⟨b, 0, none⟩) 1 1] 56 (by intro v hv; simp at hv; rcases hv with rfl | rfl <;> rfl)
          rw [show ([Value.slice none 0 0, Value.slice (some ⟨b, 0, none⟩) 1 1] : List Value).toArray = (#[.slice none 0 0, .slice (some ⟨b, 0, none⟩) 1 1] : Array Value) from rfl, hV2, s1] at h
          exact h
        have b1 : Below W2.heap.size W2 V1 := by rw [← hV1]; exact Below.allocs _ _
        have b2 : Below V1.heap.size V1 V2 := by rw [← hV2]; exact Below.allocs _ _
        have hgrow := T2.out.grow HMM.out b (below_tr b1 b2) (Nat.le_of_eq hb) (lk.below b2) lr n1 hn1 hW4
        obtain ⟨x4, hx4⟩ : ∃ x, n'.es[4]? = some x := ⟨n'.es[4]'(by rw [HMM.out]; omega), by simp⟩
        have htorn := hgrow.1
        have hsplit := split_is h n1 [] [] n' [] [] 0 4 x4 W4 htorn.inn htorn.ks rfl (by rw [← hn1]; rfl) rfl (by have := htorn.top; omega) (by rw [HMM.out]; omega) (by rw [HMM.out]; omega) (by have := htorn.len; have := htorn.top; omega) (fun hh => kid_len htorn.wfc hh) (by rw [HMM.out]) hx4
        have hn1g : n1.g = b + 1 := by rw [← hn1]
        rw [hn1g] at hsplit
        have HSPLIT := Lib.hid hsplit
        have HGROW := Lib.hid (fun W5 => hgrow.2 W5 x4 hx4)
        have glt4 : g < W4.heap.size := by have := below_tr b1 b2; rw [← hW4]; simp [World.setCell]; exact Nat.lt_of_lt_of_le glt this.size
        have c04 : W4.cell? ⟨g, 0, none⟩ = some (.pointer (some ⟨b + 1, 0, none⟩)) := by
          rw [← hW4]
          exact World.cell?_setCell_same _ _ _ (by rw [(below_tr b1 b2).cell (p := ⟨g, 0, none⟩) glt]; exact c0)
        have HW4 : Hid (((W2.setCell ⟨g, 0, none⟩ (.pointer (some ⟨b + 1, 0, none⟩))).alloc (.cells #[.pointer (some ⟨n'.g, 0, none⟩)] 51)).alloc (.cells #[.slice none 0 0, .slice (some ⟨b, 0, none⟩) 1 1] 56) = W4) := Lib.hid (by
          rw [← hW4, ← hV2, World.setCell_alloc_past _ _ _ _ (by rw [s1]; omega), ← hV1, World.setCell_alloc_past _ _ _ _ glt])
        have HB := Lib.hid hb
        have HGLT4 := Lib.hid (And.intro glt4 c04)
        clear hb hV1 hV2 hW4 s1 lk lr b1 b2 hgrow htorn hsplit hx4 hn1 hn1g glt4 c04
        go_upto_region 9 with (fail)
        simp only [HB.out]
        rw [HW4.out]
        obtain ⟨glt4, c04⟩ := HGLT4.out
        clear c0 c1 f0 f1 glt e0 nlt
        go_wp2_with fail
        refine HSPLIT.out.mono ?_
        rintro e W5 ⟨rfl, hs5⟩
        obtain ⟨n2, hn2l, t5⟩ := HGROW.out W5 hs5
        obtain ⟨c0, c1, f0, f1⟩ := t5.lit.two
        have glt := t5.lit.lt
        have hend : ∃ F', Top (W5.setCell ⟨g, 1, none⟩ (.int .i64 ((m : Int) + 1))) g (insS ltE ⟨key, id⟩ L) F' ∧ (∀ k, F' k → F k ∨ w.heap.size ≤ k) ∧ Touch F w (W5.setCell ⟨g, 1, none⟩ (.int .i64 ((m : Int) + 1))) := by
          exact ((t5.set ((m : Int) + 1)).at (by rw [HL'.out]; omega)).top (by omega) (by omega)
        have HEND := Lib.hid hend
        clear hend hs5 t5 glt4 c04
        go_wp2_with fail
        go_ret
        obtain ⟨F', q⟩ := HEND.out
        exact ⟨F', rfl, q⟩

end Go.Proofs.Ytfikaccgpjiedaa

/-
  Del: walked.
-/
namespace Go.Proofs.Ytfikaccgpjiedaa
open Go.RowKit Go.Lib

theorem firstV_ptr : ∀ (h : Nat) (n : Nd (Kid h)), ∃ q, firstV h n = .pointer q
  | 0, _ => ⟨none, rfl⟩
  | h + 1, n => by
      cases hk : n.ks with
      | nil => exact ⟨none, by simp only [firstV]; rw [hk]⟩
      | cons c l => exact ⟨some ⟨kg (h + 1) c, 0, none⟩, by simp only [firstV]; rw [hk]⟩

/-- A root without entries: its first child is the root. -/
theorem TopAt.lower {w : World} {F : Nat → Prop} {g : Nat} {m : Int} {L : List Ent} : ∀ {h : Nat} {n : Nd (Kid h)} {K : Nat → Prop} {W : World}, TopAt w F g m L 0 7 h n K W → n.es.length = 0 →
    ∃ F', Top ((W.setCell ⟨g, 0, none⟩ (firstV h n)).setCell ⟨g, 1, none⟩ (.int .i64 (L.length : Int))) g L F' ∧ (∀ k, F' k → F k ∨ w.heap.size ≤ k) ∧ Touch F w ((W.setCell ⟨g, 0, none⟩ (firstV h n)).setCell ⟨g, 1, none⟩ (.int .i64 (L.length : Int)))
  | 0, n, K, W, t, h0 => by
      have e : L = [] := by
        have h1 : entN 1 n = entsC n.es := rfl
        rw [← t.ent, h1, List.eq_nil_of_length_eq_zero h0]
        rfl
      have tc1 : TouchC (fun k _ => k = g) W (W.setCell ⟨g, 0, none⟩ (.pointer none)) := TouchC.setCell (F := fun k _ => k = g) (TouchC.refl _ _) rfl _
      have tc2 : TouchC (fun k _ => k = g) W ((W.setCell ⟨g, 0, none⟩ (.pointer none)).setCell ⟨g, 1, none⟩ (.int .i64 (L.length : Int))) := TouchC.setCell (F := fun k _ => k = g) tc1 rfl _
      have l2 : Lit ((W.setCell ⟨g, 0, none⟩ (.pointer none)).setCell ⟨g, 1, none⟩ (.int .i64 (L.length : Int))) g [.pointer none, .int .i64 (L.length : Int)] := lit_put1 (lit_put0 t.lit rfl) rfl
      have ht := t.touch.trans (tc2.touch (G := fun k => k = g) (fun _ _ _ h => h)) (fun k _ h => by rw [h]; exact t.mine)
      exact ⟨F, ⟨⟨_, l2, .inl ⟨rfl, e⟩⟩, t.mine, fun k hk => Nat.lt_of_lt_of_le (t.flt k hk) ht.size⟩, fun k hk => .inl hk, ht⟩
  | h + 1, n, K, W, t, h0 => by
      have hl : n.ks.length = n.es.length + 1 := t.tree.wf.2.2.1 (by omega)
      cases hk : n.ks with
      | nil => rw [hk] at hl; simp at hl
      | cons c l =>
        have e : firstV (h + 1) n = .pointer (some ⟨kg (h + 1) c, 0, none⟩) := by simp only [firstV]; rw [hk]
        rw [e]
        have hl0 : l = [] := by rw [hk, h0] at hl; exact List.eq_nil_of_length_eq_zero (by simpa using hl)
        have hc : n.ks[0]? = some c := by rw [hk]; rfl
        have hcm := List.mem_of_getElem? hc
        have tk := t.tree.kid hc
        have hent : entN (h + 1) c = L := by
          rw [← t.ent, entN_node]
          have e1 : n.ks.map (entN (h + 1)) = [entN (h + 1) c] := by rw [hk, hl0]; rfl
          rw [e1, List.eq_nil_of_length_eq_zero h0]
          rfl
        have tc : TouchC (fun k _ => k = g) W (W.setCell ⟨g, 0, none⟩ (.pointer (some ⟨kg (h + 1) c, 0, none⟩))) := TouchC.setCell (F := fun k _ => k = g) (TouchC.refl _ _) rfl _
        have t1 : TopAt w F g m L 3 7 h c K (W.setCell ⟨g, 0, none⟩ (.pointer (some ⟨kg (h + 1) c, 0, none⟩))) :=
          ⟨lit_put0 t.lit rfl, tk.touch tc (fun k p hf hg => (t.ft k p (.inr ⟨c, hcm, hf⟩)).2 hg) (fun k _ hx => (t.ky k hx).2), hent, fun k p hf => t.ft k p (.inr ⟨c, hcm, hf⟩), t.ky, t.mine, t.flt,
            t.touch.trans (tc.touch (G := fun k => k = g) (fun _ _ _ h => h)) (fun k _ h => by rw [h]; exact t.mine)⟩
        have h3 : 3 ≤ (Nd.es (κ := Kid h) c).length := tk.wf.1
        exact (t1.set (L.length : Int)).top (by omega) tk.wf.2.1

set_option maxRecDepth 100000 in
set_option maxHeartbeats 4000000 in
theorem tdel_is (w : World) (g : Nat) (L : List Ent) (F G : Nat → Prop) (a : Option Addr) (c kn : Nat) (key : List Val) (id : Int) (z : Bool) (hn : key.length = kn) (hn2 : kn ≤ 7500) (hL : L.length ≤ 2000) (hk : SlG G w a c key) (hG : ∀ k, G k → ¬ F k) (hz : decide ((⟨key, id⟩ : Ent) ∈ L) = z) (ht : Top w g L F) :
    Calls Try.prog 11 #[nodeV g, .slice a kn c, .int .i64 id] w fun e w' => ∃ F', e = .returned (.bool z) ∧ Top w' g (delS ⟨key, id⟩ L) F' ∧ (∀ k, F' k → F k ∨ w.heap.size ≤ k) ∧ Touch F w w' := by
  obtain ⟨r, hl, hr⟩ := ht.lit
  obtain ⟨m, hm⟩ : ∃ m, L.length = m := ⟨_, rfl⟩
  have HM := Lib.hid hm
  have hm9 : m ≤ 2000 := by omega
  have HKEY := Lib.hid hk
  have HG := Lib.hid hG
  have HZ := Lib.hid hz
  have HN := Lib.hid hn
  unfold nodeV
  clear hk hG hz hn
  rcases hr with ⟨rfl, hL0⟩ | ⟨h, n, K, rfl, t, he, hf, hkk⟩
  · subst hL0
    have c0 := hl.two.1
    have hlt := hl.lt
    have HT := Lib.hid ht
    obtain rfl : z = false := by rw [← HZ.out]; rfl
    clear hl hm ht
    go_enter Try.func11, Try.ntmps11
    go_wp2_with fail
    go_ret
    exact ⟨F, rfl, HT.out, fun k hk => .inl hk, Touch.refl _ _⟩
  · have T := Lib.hid (TopAt.start ht hl t he hf hkk)
    rw [hm] at T
    obtain ⟨c0, c1, f0, f1⟩ := T.out.lit.two
    have hlt := T.out.lit.lt
    have HT := Lib.hid ht
    have HDEL := Lib.hid fun W' (hb : Below w.heap.size w W') => del_is h n 1 K a c kn key id z W' (T.out.below hb).tree (fun _ => Nat.le_refl _) HN.out (by omega) ((HKEY.out.stay (T.out.touch.stay HG.out)).below hb).sl (by rw [T.out.ent]; exact HZ.out)
    clear hl ht t he hf hkk hm
    go_enter Try.func11, Try.ntmps11
    go_wp2_with fail
    refine (HDEL.out _ (Below.refl _ _)).mono ?_
    rintro e W2 ⟨rfl, n', hr2, t2, he2⟩
    have he3 : entN (h + 1) n' = delS ⟨key, id⟩ L := by rw [he2, T.out.ent]
    have T2 := Lib.hid (T.out.res hr2 t2 he3 (fun k hk => .inl hk))
    clear c0 c1 f0 f1 hlt hr2 t2 he2 he3
    cases z with
    | false =>
      have hx : (⟨key, id⟩ : Ent) ∉ L := of_decide_eq_false HZ.out
      have hdel : delS ⟨key, id⟩ L = L := delS_none hx
      have hend : ∃ F', Top W2 g (delS ⟨key, id⟩ L) F' ∧ (∀ k, F' k → F k ∨ w.heap.size ≤ k) ∧ Touch F w W2 := (T2.out.at (by have h0 := HM.out; rw [hdel]; omega)).top T2.out.tree.wf.1 T2.out.tree.wf.2.1
      have HEND := Lib.hid hend
      clear hx hdel hend
      go_wp2_with fail
      go_ret
      obtain ⟨F', q⟩ := HEND.out
      exact ⟨F', rfl, q⟩
    | true =>
      have hx : (⟨key, id⟩ : Ent) ∈ L := of_decide_eq_true HZ.out
      have HL' : Hid ((delS ⟨key, id⟩ L).length + 1 = m) := Lib.hid (by rw [length_delS sloE (by rw [← T.out.ent]; exact T.out.tree.srt) hx, HM.out])
      have hm1 : 1 ≤ m := by have := HL'.out; omega
      obtain ⟨c0, c1, f0, f1⟩ := T2.out.lit.two
      have glt := T2.out.lit.lt
      obtain ⟨M, hM⟩ : ∃ M, n'.es.length = M := ⟨_, rfl⟩
      have e0 := T2.out.tree.inn.self.g0
      rw [hM] at e0
      have nlt := T2.out.tree.inn.self.lt
      have hM8 : M ≤ 8 := by rw [← hM]; exact Nat.le_trans T2.out.tree.wf.2.1 (by omega)
      have HMM := Lib.hid hM
      clear hx hM
      by_cases h0 : M = 0
      · subst h0
        obtain ⟨q, hq⟩ := firstV_ptr h n'
        have HFI := Lib.hid fun W (hb : Below W2.heap.size W2 W) => first_is h n' _ 7 W (T2.out.tree.inn.below hb) T2.out.tree.wf
        rw [hq] at HFI
        have HQ := Lib.hid hq
        clear hq
        go_wp2_with fail
        refine (HFI.out _ (Below.refl _ _)).mono ?_
        rintro e v ⟨rfl, hb⟩
        have hend : ∃ F', Top ((v.setCell ⟨g, 0, none⟩ (.pointer q)).setCell ⟨g, 1, none⟩ (.int .i64 ((m : Int) - 1))) g (delS ⟨key, id⟩ L) F' ∧ (∀ k, F' k → F k ∨ w.heap.size ≤ k) ∧ Touch F w ((v.setCell ⟨g, 0, none⟩ (.pointer q)).setCell ⟨g, 1, none⟩ (.int .i64 ((m : Int) - 1))) := by
          have e : ((m : Int) - 1) = ((delS ⟨key, id⟩ L).length : Int) := by have := HL'.out; omega
          rw [e, ← HQ.out]
          exact (T2.out.below hb).lower HMM.out
        obtain ⟨c0, c1, f0, f1⟩ := (T2.out.lit.below hb).two
        have glt2 := (T2.out.lit.below hb).lt
        have HEND := Lib.hid hend
        clear hend hb e0 nlt glt HFI
        go_wp2_with fail
        go_ret
        obtain ⟨F', q⟩ := HEND.out
        exact ⟨F', rfl, q⟩
      · have hend : ∃ F', Top (W2.setCell ⟨g, 1, none⟩ (.int .i64 ((m : Int) - 1))) g (delS ⟨key, id⟩ L) F' ∧ (∀ k, F' k → F k ∨ w.heap.size ≤ k) ∧ Touch F w (W2.setCell ⟨g, 1, none⟩ (.int .i64 ((m : Int) - 1))) :=
          ((T2.out.set ((m : Int) - 1)).at (by have := HL'.out; omega)).top (by rw [HMM.out]; omega) T2.out.tree.wf.2.1
        have HEND := Lib.hid hend
        clear hend
        go_wp2_with fail
        go_ret
        obtain ⟨F', q⟩ := HEND.out
        exact ⟨F', rfl, q⟩

end Go.Proofs.Ytfikaccgpjiedaa

