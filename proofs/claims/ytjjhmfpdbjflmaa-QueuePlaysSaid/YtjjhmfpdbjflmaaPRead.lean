/-
  What is told of a lock, and New, Copy: walked (stage 14).
-/
import Derived.Test.YtjjhmfpdbjflmaaPDel2
import Derived.Test.YtjjhmfpdbjflmaaOSet
import Derived.Test.YtjjhmfpdbjflmaaRegG
import Derived.Test.YtjjhmfpdbjflmaaERX
import Derived.Carry
namespace Go.Proofs.Ytjjhmfpdbjflmaa
open Go.RowKit
set_option linter.unusedVariables false

set_option maxRecDepth 100000 in
set_option maxHeartbeats 4000000 in
theorem place_nil (x : Int) (w : World) : Calls Try.prog 38 #[.pointer none, .int .i64 x] w fun e w' => e = .returned (.int .i64 (-1)) ∧ Below w.heap.size w w' := by
  go_enter Try.func38, Try.ntmps38
  go_wp2_with fail
  go_ret
  exact ⟨rfl, Below.refl _ _⟩

set_option maxRecDepth 100000 in
set_option maxHeartbeats 4000000 in
theorem place_is (w : World) (h b : Nat) (s : Value) (n : Nat) (A : Lk) (x : Int) (hn : A.wt.length ≤ 100000) (H : LkM w h b s n A) (r : Int) (hr : placeI A.wt x = r) :
    Calls Try.prog 38 #[.pointer (some ⟨h, 0, none⟩), .int .i64 x] w fun e w' => e = .returned (.int .i64 r) ∧ Below w.heap.size w w' := by
  have HL := Lib.hid H
  have HN := Lib.hid hn
  have HR := Lib.hid hr
  clear H hn hr
  go_enter Try.func38, Try.ntmps38
  go_upto_region 3 with (fail)
  have hdr := below_drw w
  try simp only [List.append_eq, List.cons_append, List.nil_append]
  refine RX.wp_region_plan (fun w w' => Below w.heap.size w w') [.it (.pointer (some ⟨h, 0, none⟩)), .it (.pointer (some ⟨h, 0, none⟩)), .it (.pointer (some ⟨h, 2, none⟩)), .it (s), .it (.int .i64 x), .of (fun W v => ∃ gx, v = .func (.func 56) #[] #[.pointer (some ⟨gx, 0, none⟩)] ∧ Lit W gx 3 [.int .i64 x]), .it (.int .i64 r), .it (.int .i64 r)] (by kernel_rfl) (by kernel_rfl) (fun _ => Below.refl _ _) (fun _ _ _ => below_tr) ?_
  refine RX.seqP_value (fun _ => Below.refl _ _) _ (by first | rfl | simp) (fun w' hw' hctx => by (go_simp); (try first | with_reducible rfl | simp)) ?_
  simp only [Act.put, List.setIfInBounds_toArray, List.set_cons_zero, List.set_cons_succ]
  refine RX.seqP_value (fun _ => Below.refl _ _) _ (by first | rfl | simp) (fun w' hw' hctx => by (go_simp); (try first | with_reducible rfl | simp)) ?_
  simp only [Act.put, List.setIfInBounds_toArray, List.set_cons_zero, List.set_cons_succ]
  refine RX.seqP_value (fun _ => Below.refl _ _) _ (by first | rfl | simp) (fun w' hw' hctx => by (go_simp); (try first | with_reducible rfl | simp)) ?_
  simp only [Act.put, List.setIfInBounds_toArray, List.set_cons_zero, List.set_cons_succ]
  refine RX.seqP_value (fun _ => Below.refl _ _) _ (by first | rfl | simp) (fun w' hw' hctx => ?_) ?_
  · have H1 := HL.out.below (below_tr hdr hw')
    obtain ⟨d0, d1, d2, dl⟩ := H1.cells
    go_simp
    try first | with_reducible rfl | simp
  simp only [Act.put, List.setIfInBounds_toArray, List.set_cons_zero, List.set_cons_succ]
  refine RX.seqP_value (fun _ => Below.refl _ _) _ (by first | rfl | simp) (fun w' hw' hctx => by (go_simp); (try first | with_reducible rfl | simp)) ?_
  simp only [Act.put, List.setIfInBounds_toArray, List.set_cons_zero, List.set_cons_succ]
  refine RX.seqP_callOf (33) #[.int .i64 x] (fun W v => ∃ gx, v = .func (.func 56) #[] #[.pointer (some ⟨gx, 0, none⟩)] ∧ Lit W gx 3 [.int .i64 x]) (fun w w' v hb h => by obtain ⟨gx, h1, h2⟩ := h; exact ⟨gx, h1, h2.below hb⟩) (by first | rfl | simp) (fun w' hw' hctx => ?_) (fun w' hw' hctx => (by_is x w').mono fun e w2 ⟨he, hl, hb⟩ => ⟨_, he, hb, _, rfl, hl⟩) (fun u5 => ?_)
  · go_simp
  simp only [Act.put, List.setIfInBounds_toArray, List.set_cons_zero, List.set_cons_succ]
  refine RX.seqP_call (55) #[s, u5] (.int .i64 r) (by first | rfl | simp) (fun w' hw' hctx => ?_) (fun w' hw' hctx => by obtain ⟨gx, rfl, hgx⟩ := hctx.1; exact indexQ_is s A.wt x gx w' HN.out (HL.out.below (below_tr hdr hw')).row hgx r HR.out) ?_
  · go_simp
  simp only [Act.put, List.setIfInBounds_toArray, List.set_cons_zero, List.set_cons_succ]
  refine RX.seqP_value (fun _ => Below.refl _ _) _ (by first | rfl | simp) (fun w' hw' hctx => by (go_simp); (try first | with_reducible rfl | simp)) ?_
  simp only [Act.put, List.setIfInBounds_toArray, List.set_cons_zero, List.set_cons_succ]
  refine RX.seqP_nil (fun w2 hR hctx _ => ?_)
  have hb2 := below_tr hdr hR
  clear hctx hR
  have HB := Lib.hid hb2
  clear hdr hb2
  go_wp2_with fail
  go_ret
  exact ⟨rfl, HB.out⟩

set_option maxRecDepth 100000 in
set_option maxHeartbeats 4000000 in
theorem held_nil (x : Int) (w : World) : Calls Try.prog 20 #[.pointer none, .int .i64 x] w fun e w' => e = .returned (.int .u16 0) ∧ Below w.heap.size w w' := by
  go_enter Try.func20, Try.ntmps20
  go_wp2_with fail
  go_ret
  exact ⟨rfl, Below.refl _ _⟩

set_option maxRecDepth 100000 in
set_option maxHeartbeats 4000000 in
theorem held_is (w : World) (h b : Nat) (s : Value) (n : Nat) (A : Lk) (x : Int) (hx : I64 x) (H : LkM w h b s n A) (r : Int) (hr : heldL A.hd x = r) :
    Calls Try.prog 20 #[.pointer (some ⟨h, 0, none⟩), .int .i64 x] w fun e w' => e = .returned (.int .u16 r) ∧ Below w.heap.size w w' := by
  obtain ⟨d0, d1, d2, dl⟩ := H.cells
  have hlk := H.look hx
  rw [hr] at hlk
  clear H
  go_enter Try.func20, Try.ntmps20
  go_wp2_with fail
  go_ret
  exact ⟨rfl, Below.refl _ _⟩

set_option maxRecDepth 100000 in
set_option maxHeartbeats 4000000 in
theorem waits_nil (x : Int) (w : World) : Calls Try.prog 19 #[.pointer none, .int .i64 x] w fun e w' => e = .returned (.tuple #[.int .u8 0, .bool false]) ∧ Below w.heap.size w w' := by
  have HC := Lib.hid (place_nil x w)
  go_enter Try.func19, Try.ntmps19
  go_wp2_with fail
  refine HC.out.mono ?_
  rintro e w1 ⟨rfl, hb1⟩
  have HB := Lib.hid hb1
  clear hb1 HC
  go_wp2_with fail
  exact bodyPost_ret (v := .tuple #[.int .u8 0, .bool false]) (by first | (simp [results, Try.results19, go_sem]; done) | (simp [results, Try.results19, go_sem]; rfl)) rfl ⟨rfl, HB.out⟩

set_option maxRecDepth 100000 in
set_option maxHeartbeats 4000000 in
theorem waits_no (w : World) (h b : Nat) (s : Value) (n : Nat) (A : Lk) (x : Int) (hn : A.wt.length ≤ 100000) (H : LkM w h b s n A) (hx : x ∉ fsts A.wt) :
    Calls Try.prog 19 #[.pointer (some ⟨h, 0, none⟩), .int .i64 x] w fun e w' => e = .returned (.tuple #[.int .u8 0, .bool false]) ∧ Below w.heap.size w w' := by
  have hr : placeI A.wt x = -1 := by unfold placeI; rw [if_neg hx]
  have HC := Lib.hid (place_is w h b s n A x hn H _ hr)
  clear H hr
  go_enter Try.func19, Try.ntmps19
  go_wp2_with fail
  refine HC.out.mono ?_
  rintro e w1 ⟨rfl, hb1⟩
  have HB := Lib.hid hb1
  clear hb1 HC
  go_wp2_with fail
  exact bodyPost_ret (v := .tuple #[.int .u8 0, .bool false]) (by first | (simp [results, Try.results19, go_sem]; done) | (simp [results, Try.results19, go_sem]; rfl)) rfl ⟨rfl, HB.out⟩

set_option maxRecDepth 100000 in
set_option maxHeartbeats 4000000 in
theorem waits_yes (w : World) (h b : Nat) (s : Value) (n : Nat) (A : Lk) (x : Int) (hn : A.wt.length ≤ 100000) (H : LkM w h b s n A) (hx : x ∈ fsts A.wt) (m : Int) (hm : heldL A.wt x = m) :
    Calls Try.prog 19 #[.pointer (some ⟨h, 0, none⟩), .int .i64 x] w fun e w' => e = .returned (.tuple #[.int .u8 m, .bool true]) ∧ Below w.heap.size w w' := by
  obtain ⟨i1, i2, i3⟩ := idx_in hx
  obtain ⟨i, hi⟩ : ∃ i, idxL A.wt x = i := ⟨_, rfl⟩
  rw [hi, hm] at i2
  rw [hi] at i1
  have hr : placeI A.wt x = i := by unfold placeI; rw [if_pos hx, hi]
  have HC := Lib.hid (place_is w h b s n A x hn H _ hr)
  have HL := Lib.hid H
  have HI := Lib.hid i2
  obtain ⟨k, hk⟩ : ∃ k, A.wt.length = k := ⟨_, rfl⟩
  have HK := Lib.hid hk
  rw [hk] at i1 hn
  have i1z : (i : Int) < (k : Int) := by omega
  have i1n : ¬ (i : Int) < 0 := by omega
  clear H hr i2 i3 hx hm hi hk
  go_enter Try.func19, Try.ntmps19
  go_wp2_with fail
  refine HC.out.mono ?_
  rintro e w1 ⟨rfl, hb1⟩
  have H1 := HL.out.below hb1
  obtain ⟨d0, d1, d2, dl⟩ := H1.cells
  obtain ⟨bq, c, e1, -, -, bl, c0, c1⟩ := H1.row.at HI.out
  rw [HK.out] at e1
  subst e1
  have HB := Lib.hid hb1
  clear hb1 HC H1
  go_wp2_with fail
  exact bodyPost_ret (v := .tuple #[.int .u8 m, .bool true]) (by first | (simp [results, Try.results19, go_sem]; done) | (simp [results, Try.results19, go_sem]; rfl)) rfl ⟨rfl, HB.out⟩

def waitsV (A : Lk) (x : Int) : Int := if x ∈ fsts A.wt then heldL A.wt x else 0
def waitsB (A : Lk) (x : Int) : Bool := decide (x ∈ fsts A.wt)
theorem waits_is (w : World) (h b : Nat) (s : Value) (n : Nat) (A : Lk) (x : Int) (hn : A.wt.length ≤ 100000) (H : LkM w h b s n A) (m : Int) (hm : waitsV A x = m) (q : Bool) (hq : waitsB A x = q) :
    Calls Try.prog 19 #[.pointer (some ⟨h, 0, none⟩), .int .i64 x] w fun e w' => e = .returned (.tuple #[.int .u8 m, .bool q]) ∧ Below w.heap.size w w' := by
  subst hm hq
  unfold waitsV waitsB
  by_cases hx : x ∈ fsts A.wt
  · rw [if_pos hx, decide_eq_true hx]
    exact waits_yes w h b s n A x hn H hx _ rfl
  · rw [if_neg hx, decide_eq_false hx]
    exact waits_no w h b s n A x hn H hx

theorem LkM.len {W : World} {h b n : Nat} {s : Value} {A : Lk} (H : LkM W h b s n A) (hok : Ok0 A) : ∃ k : Nat, (∀ ty, (Builtin.len_ #[55] ty #[.map (some b)]).run Try.prog W = .ok (.int .i64 k) W) ∧ (k = 0 ↔ A.hd = []) := by
  obtain ⟨k0, -, -, hk0⟩ := H.map.len (t := 55) (e := 45) Try.underlying55 0
  obtain ⟨D, d1, d2⟩ := H.map
  refine ⟨Maps.size D, fun ty => d1.len Try.underlying55 ty, ?_⟩
  obtain ⟨es, rfl, hp, hk⟩ := own_keys d1
  constructor
  · intro h0
    have he : es = [] := List.eq_nil_of_length_eq_zero h0
    refine List.eq_nil_iff_forall_not_mem.2 fun p hp => ?_
    have hpx := hok.held p hp
    have := (d2 p.1 hpx.2.1).1
    rw [he] at this
    unfold mapV at this
    rw [held_of hok.rise hp, if_neg hpx.2.2.2.1] at this
    cases this
  · intro h0
    cases es with
    | nil => rfl
    | cons p es =>
      obtain ⟨y, e1, e2⟩ := hk p (List.mem_cons_self ..)
      have := (d2 y e2).1
      rw [Maps.has_eq, List.any_cons, e1] at this
      have hs : (Go.Lit.int .i64 y).sameKey (.int .i64 y) = true := WideAt.sameKey_self (lawI.key (keyI e2))
      rw [hs, h0] at this
      cases this

set_option maxRecDepth 100000 in
set_option maxHeartbeats 4000000 in
theorem idle_nil (w : World) : Calls Try.prog 24 #[.pointer none] w fun e w' => e = .returned (.bool true) ∧ Below w.heap.size w w' := by
  go_enter Try.func24, Try.ntmps24
  go_wp2_with fail
  go_ret
  exact ⟨rfl, Below.refl _ _⟩

set_option maxRecDepth 100000 in
set_option maxHeartbeats 4000000 in
theorem idle_is (w : World) (h b : Nat) (s : Value) (n : Nat) (A : Lk) (hok : Ok0 A) (H : LkM w h b s n A) (q : Bool) (hq : decide (A.hd = [] ∧ A.wt = []) = q) :
    Calls Try.prog 24 #[.pointer (some ⟨h, 0, none⟩)] w fun e w' => e = .returned (.bool q) ∧ Below w.heap.size w w' := by
  obtain ⟨d0, d1, d2, dl⟩ := H.cells
  obtain ⟨k, hk1, hk2⟩ := H.len hok
  obtain ⟨a, c, rfl, -, -⟩ := H.row.form
  obtain ⟨m, hm⟩ : ∃ m, A.wt.length = m := ⟨_, rfl⟩
  rw [hm] at d2
  have hw : A.wt = [] ↔ m = 0 := by rw [← hm]; exact List.length_eq_zero_iff.symm
  have HQ := Lib.hid hq
  have HW := Lib.hid hw
  have HK := Lib.hid hk2
  clear H hq hw hm hk2
  by_cases hk : k = 0
  · have e1 : ((k : Int) == 0) = true := by simp [hk]
    by_cases hm : m = 0
    · have e2 : ((m : Int) == 0) = true := by simp [hm]
      go_enter Try.func24, Try.ntmps24
      go_wp2_with fail
      go_ret
      rw [← HQ.out]
      exact ⟨by rw [decide_eq_true ⟨HK.out.1 hk, HW.out.2 hm⟩]; rfl, Below.refl _ _⟩
    · have e2 : ((m : Int) == 0) = false := by simp [hm]
      go_enter Try.func24, Try.ntmps24
      go_wp2_with fail
      go_ret
      rw [← HQ.out]
      exact ⟨by rw [decide_eq_false (fun e => hm (HW.out.1 e.2))]; rfl, Below.refl _ _⟩
  · have e1 : ((k : Int) == 0) = false := by simp [hk]
    go_enter Try.func24, Try.ntmps24
    go_wp2_with fail
    go_ret
    rw [← HQ.out]
    exact ⟨by rw [decide_eq_false (fun e => hk (HK.out.2 e.1))]; rfl, Below.refl _ _⟩

set_option maxRecDepth 100000 in
set_option maxHeartbeats 4000000 in
theorem new_bad (c : Int) (w : World) (hc : c ≠ 1 ∧ c ≠ 2) : Calls Try.prog 9 #[.int .u8 c] w fun e w' => e = .returned (.tuple #[.pointer none, .int .i64 1]) ∧ Below w.heap.size w w' := by
  have hcon := may_is c 1 (by unfold U8; omega) w false (may_other hc.1 hc.2 1)
  clear hc
  go_enter Try.func9, Try.ntmps9
  go_wp2_with fail
  refine hcon.mono ?_
  rintro e w1 ⟨rfl, hb1⟩
  have HB := Lib.hid hb1
  clear hb1 hcon
  go_wp2_with fail
  exact bodyPost_ret (v := .tuple #[.pointer none, .int .i64 1]) (by first | (simp [results, Try.results9, go_sem]; done) | (simp [results, Try.results9, go_sem]; rfl)) rfl ⟨rfl, HB.out⟩

theorem mapV_nil : mapV [] = fun _ => none := by
  funext x
  rfl

set_option maxRecDepth 100000 in
set_option maxHeartbeats 4000000 in
theorem new_is (c : Int) (w : World) (hc : c = 1 ∨ c = 2) : Calls Try.prog 9 #[.int .u8 c] w fun e w' => ∃ h b, e = .returned (.tuple #[.pointer (some ⟨h, 0, none⟩), .int .i64 0]) ∧ LkM w' h b (.slice none 0 0) 0 (Lk.new c) ∧ w.heap.size ≤ h ∧ w.heap.size ≤ b ∧ Below w.heap.size w w' := by
  have hm : mayB c 1 = true := by rcases hc with rfl | rfl <;> decide
  have hcon := may_is c 1 (by unfold U8; omega) w true hm
  have hmm := @run_makeMap Try.prog
  clear hc hm
  go_enter Try.func9, Try.ntmps9
  go_wp2_with fail
  refine hcon.mono ?_
  rintro e w1 ⟨rfl, hb1⟩
  have HB := Lib.hid hb1
  have h1 := MapF.new w1
  have hal := Below.allocs w1 (.map #[] 0)
  have h2 := Lit.new (w1.alloc (.map #[] 0)) 58 [.int .u8 c, .map (some w1.heap.size), .slice none 0 0]
  have hal2 := Below.allocs (w1.alloc (.map #[] 0)) (.cells #[.int .u8 c, .map (some w1.heap.size), .slice none 0 0] 58)
  have HE := Lib.hid (And.intro h1 (And.intro hal (And.intro h2 hal2)))
  clear hb1 hcon h1 hal h2 hal2
  go_wp2_with fail
  obtain ⟨h1, hal, h2, hal2⟩ := HE.out
  have e0 : (w1.alloc (.map #[] 0)).heap.size = w1.heap.size + 1 := by simp
  rw [e0] at h2
  have hres : LkM _ (w1.heap.size + 1) w1.heap.size (.slice none 0 0) 0 (Lk.new c) := ⟨h2, by
    show MapF _ _ _ (mapV [])
    rw [mapV_nil]
    exact h1.below hal2, RowQ.nil _, by omega, fun k hk => (by cases hk)⟩
  exact bodyPost_ret (v := .tuple #[.pointer (some ⟨w1.heap.size + 1, 0, none⟩), .int .i64 0]) (by first | (simp [results, Try.results9, go_sem]; done) | (simp [results, Try.results9, go_sem]; rfl)) rfl ⟨_, _, rfl, hres, Nat.le_trans HB.out.size (Nat.le_succ _), HB.out.size, below_tr HB.out (below_tr hal hal2)⟩

theorem mclone_is (b n : Nat) (f : Int → Option Value) (w : World) (h : MapF w b n f) : Calls Try.prog 30 #[.map (some b)] w fun e w' => e = .returned (.map (some w.heap.size)) ∧ MapF w' w.heap.size n f ∧ Below w.heap.size w w' := by
  obtain ⟨D, h1, h2⟩ := h
  refine (show Calls Try.prog 30 _ _ _ from AnyW.maps_Clone_owns Try.mcloneI 3 KR b n D w h1).mono ?_
  rintro e w' ⟨rfl, q1, q2, q3⟩
  exact ⟨rfl, ⟨D, q1, h2⟩, q3⟩

set_option maxRecDepth 100000 in
set_option maxHeartbeats 4000000 in
theorem copy_nil (w : World) : Calls Try.prog 11 #[.pointer none] w fun e w' => e = .returned (.pointer none) ∧ Below w.heap.size w w' := by
  go_enter Try.func11, Try.ntmps11
  go_wp2_with fail
  go_ret
  exact ⟨rfl, Below.refl _ _⟩

theorem copy_done {A : Lk} {n bx : Nat} {sx : Value} {w w' : World} (hb : Below w.heap.size w w') (hm : MapF w' bx n (mapV A.hd)) (hmb : w.heap.size ≤ bx) (hrq : RowQ w' sx A.wt) (hro : ∀ k, sx.ownBlock = some k → w.heap.size ≤ k) :
    ∃ hx bx' sx', Value.pointer (some ⟨w'.heap.size, 0, none⟩) = .pointer (some ⟨hx, 0, none⟩) ∧ LkM (w'.alloc (.cells #[.int .u8 A.c, .map (some bx), sx] 58)) hx bx' sx' n A ∧ ∀ k, LkF hx bx' sx' k → w.heap.size ≤ k := by
  have hal := Below.allocs w' (.cells #[.int .u8 A.c, .map (some bx), sx] 58)
  have hbl := hm.lt
  refine ⟨_, bx, sx, rfl, ⟨Lit.new w' _ _, hm.below hal, hrq.below hal, by omega, fun k hk => ⟨by have := hrq.lt k hk; omega, ?_⟩⟩, ?_⟩
  · rintro rfl
    obtain ⟨D, ⟨es, clock, e1, -⟩, -⟩ := hm
    rcases hrq.own.2 with ⟨rfl, _⟩ | ⟨g, c, cur, rfl, _, hg, _⟩
    · cases hk
    · have : g = k := Option.some.inj hk
      subst this
      rw [e1] at hg
      cases hg
  · rintro k (rfl | rfl | hk)
    · exact hb.size
    · exact hmb
    · exact hro k hk

set_option maxRecDepth 100000 in
set_option maxHeartbeats 4000000 in
theorem copy_is (w : World) (h b : Nat) (s : Value) (n : Nat) (A : Lk) (hn : A.wt.length ≤ 100000) (H : LkM w h b s n A) :
    Calls Try.prog 11 #[.pointer (some ⟨h, 0, none⟩)] w fun e w' => ∃ h2 b2 s2, e = .returned (.pointer (some ⟨h2, 0, none⟩)) ∧ LkM w' h2 b2 s2 n A ∧ (∀ k, LkF h2 b2 s2 k → w.heap.size ≤ k) ∧ Below w.heap.size w w' := by
  have HL := Lib.hid H
  have HN := Lib.hid hn
  clear H hn
  go_enter Try.func11, Try.ntmps11
  go_upto_region 3 with (fail)
  have hdr := below_drw w
  try simp only [List.append_eq, List.cons_append, List.nil_append]
  refine RX.wp_region_plan (fun w w' => Below w.heap.size w w') [.it (.pointer (some ⟨h, 0, none⟩)), .it (.pointer (some ⟨h, 0, none⟩)), .it (.pointer (some ⟨h, 0, none⟩)), .it (.int .u8 A.c), .it (.pointer (some ⟨h, 0, none⟩)), .it (.pointer (some ⟨h, 0, none⟩)), .it (.pointer (some ⟨h, 1, none⟩)), .it (.map (some b)), .of (fun W v => ∃ bx, v = .map (some bx) ∧ MapF W bx n (mapV A.hd) ∧ w.heap.size ≤ bx), .it (.pointer (some ⟨h, 0, none⟩)), .it (.pointer (some ⟨h, 0, none⟩)), .it (.pointer (some ⟨h, 2, none⟩)), .it (s), .of (fun W v => RowQ W v A.wt ∧ ∀ k, v.ownBlock = some k → w.heap.size ≤ k), .of (fun W v => ∃ cs, v = .agg cs ∧ ∃ bx sx, cs = #[.int .u8 A.c, .map (some bx), sx] ∧ MapF W bx n (mapV A.hd) ∧ w.heap.size ≤ bx ∧ RowQ W sx A.wt ∧ ∀ k, sx.ownBlock = some k → w.heap.size ≤ k), .of (fun W v => ∃ hx bx sx, v = .pointer (some ⟨hx, 0, none⟩) ∧ LkM W hx bx sx n A ∧ ∀ k, LkF hx bx sx k → w.heap.size ≤ k), .of (fun W v => ∃ hx bx sx, v = .pointer (some ⟨hx, 0, none⟩) ∧ LkM W hx bx sx n A ∧ ∀ k, LkF hx bx sx k → w.heap.size ≤ k)] (by kernel_rfl) (by kernel_rfl) (fun _ => Below.refl _ _) (fun _ _ _ => below_tr) ?_
  refine RX.seqP_value (fun _ => Below.refl _ _) _ (by first | rfl | simp) (fun w' hw' hctx => by (go_simp); (try first | with_reducible rfl | simp)) ?_
  simp only [Act.put, List.setIfInBounds_toArray, List.set_cons_zero, List.set_cons_succ]
  refine RX.seqP_value (fun _ => Below.refl _ _) _ (by first | rfl | simp) (fun w' hw' hctx => by (go_simp); (try first | with_reducible rfl | simp)) ?_
  simp only [Act.put, List.setIfInBounds_toArray, List.set_cons_zero, List.set_cons_succ]
  refine RX.seqP_value (fun _ => Below.refl _ _) _ (by first | rfl | simp) (fun w' hw' hctx => by (go_simp); (try first | with_reducible rfl | simp)) ?_
  simp only [Act.put, List.setIfInBounds_toArray, List.set_cons_zero, List.set_cons_succ]
  refine RX.seqP_value (fun _ => Below.refl _ _) _ (by first | rfl | simp) (fun w' hw' hctx => ?_) ?_
  · have H1 := HL.out.below (below_tr hdr hw')
    obtain ⟨d0, d1, d2, dl⟩ := H1.cells
    go_simp
    try first | with_reducible rfl | simp
  simp only [Act.put, List.setIfInBounds_toArray, List.set_cons_zero, List.set_cons_succ]
  refine RX.seqP_value (fun _ => Below.refl _ _) _ (by first | rfl | simp) (fun w' hw' hctx => by (go_simp); (try first | with_reducible rfl | simp)) ?_
  simp only [Act.put, List.setIfInBounds_toArray, List.set_cons_zero, List.set_cons_succ]
  refine RX.seqP_value (fun _ => Below.refl _ _) _ (by first | rfl | simp) (fun w' hw' hctx => by (go_simp); (try first | with_reducible rfl | simp)) ?_
  simp only [Act.put, List.setIfInBounds_toArray, List.set_cons_zero, List.set_cons_succ]
  refine RX.seqP_value (fun _ => Below.refl _ _) _ (by first | rfl | simp) (fun w' hw' hctx => by (go_simp); (try first | with_reducible rfl | simp)) ?_
  simp only [Act.put, List.setIfInBounds_toArray, List.set_cons_zero, List.set_cons_succ]
  refine RX.seqP_value (fun _ => Below.refl _ _) _ (by first | rfl | simp) (fun w' hw' hctx => ?_) ?_
  · have H1 := HL.out.below (below_tr hdr hw')
    obtain ⟨d0, d1, d2, dl⟩ := H1.cells
    go_simp
    try first | with_reducible rfl | simp
  simp only [Act.put, List.setIfInBounds_toArray, List.set_cons_zero, List.set_cons_succ]
  refine RX.seqP_callOf (30) #[.map (some b)] (fun W v => ∃ bx, v = .map (some bx) ∧ MapF W bx n (mapV A.hd) ∧ w.heap.size ≤ bx) (fun w w' v hb h => by obtain ⟨bx, h1, h2, h3⟩ := h; exact ⟨bx, h1, h2.below hb, h3⟩) (by first | rfl | simp) (fun w' hw' hctx => ?_) (fun w' hw' hctx => (mclone_is b n _ w' (HL.out.below (below_tr hdr hw')).map).mono fun e w2 ⟨he, hl, hb⟩ => ⟨_, he, hb, _, rfl, hl, ((below_tr hdr hw')).size⟩) (fun u8 => ?_)
  · go_simp
  simp only [Act.put, List.setIfInBounds_toArray, List.set_cons_zero, List.set_cons_succ]
  refine RX.seqP_value (fun _ => Below.refl _ _) _ (by first | rfl | simp) (fun w' hw' hctx => by (go_simp); (try first | with_reducible rfl | simp)) ?_
  simp only [Act.put, List.setIfInBounds_toArray, List.set_cons_zero, List.set_cons_succ]
  refine RX.seqP_value (fun _ => Below.refl _ _) _ (by first | rfl | simp) (fun w' hw' hctx => by (go_simp); (try first | with_reducible rfl | simp)) ?_
  simp only [Act.put, List.setIfInBounds_toArray, List.set_cons_zero, List.set_cons_succ]
  refine RX.seqP_value (fun _ => Below.refl _ _) _ (by first | rfl | simp) (fun w' hw' hctx => by (go_simp); (try first | with_reducible rfl | simp)) ?_
  simp only [Act.put, List.setIfInBounds_toArray, List.set_cons_zero, List.set_cons_succ]
  refine RX.seqP_value (fun _ => Below.refl _ _) _ (by first | rfl | simp) (fun w' hw' hctx => ?_) ?_
  · have H1 := HL.out.below (below_tr hdr hw')
    obtain ⟨d0, d1, d2, dl⟩ := H1.cells
    go_simp
    try first | with_reducible rfl | simp
  simp only [Act.put, List.setIfInBounds_toArray, List.set_cons_zero, List.set_cons_succ]
  refine RX.seqP_callOf (31) #[s] (fun W v => RowQ W v A.wt ∧ ∀ k, v.ownBlock = some k → w.heap.size ≤ k) (fun w w' v hb h => ⟨h.1.below hb, h.2⟩) (by first | rfl | simp) (fun w' hw' hctx => ?_) (fun w' hw' hctx => (cloneQ_is s A.wt (Nat.le_trans HN.out (by decide)) w' (HL.out.below (below_tr hdr hw')).row).mono fun e w2 ⟨v, he, hr, ho, hb⟩ => ⟨v, he, hb, hr, fun k hk => Nat.le_trans ((below_tr hdr hw')).size (ho k hk)⟩) (fun u13 => ?_)
  · go_simp
  simp only [Act.put, List.setIfInBounds_toArray, List.set_cons_zero, List.set_cons_succ]
  refine RX.seqP_make (fun W v => ∃ cs, v = .agg cs ∧ ∃ bx sx, cs = #[.int .u8 A.c, .map (some bx), sx] ∧ MapF W bx n (mapV A.hd) ∧ w.heap.size ≤ bx ∧ RowQ W sx A.wt ∧ ∀ k, sx.ownBlock = some k → w.heap.size ≤ k) (fun w w' v hb h => by obtain ⟨cs, h1, bx, sx, h2, h3, h4, h5, h6⟩ := h; exact ⟨cs, h1, bx, sx, h2, h3.below hb, h4, h5.below hb, h6⟩) (by first | rfl | simp) (fun w' hw' hctx => ?_) (fun u14 => ?_)
  · obtain ⟨bx, rfl, hm, hmb⟩ := hctx.2.1
    obtain ⟨hrq, hro⟩ := hctx.1
    obtain ⟨qa, qc, hqf, -, -⟩ := hrq.form
    subst hqf
    exact ⟨.agg #[.int .u8 A.c, .map (some bx), .slice qa A.wt.length qc], w', by go_simp, Below.refl _ _, ⟨_, rfl, bx, _, rfl, hm, hmb, hrq, hro⟩⟩
  simp only [Act.put, List.setIfInBounds_toArray, List.set_cons_zero, List.set_cons_succ]
  refine RX.seqP_make (fun W v => ∃ hx bx sx, v = .pointer (some ⟨hx, 0, none⟩) ∧ LkM W hx bx sx n A ∧ ∀ k, LkF hx bx sx k → w.heap.size ≤ k) (fun w w' v hb h => by obtain ⟨hx, bx, sx, h1, h2, h3⟩ := h; exact ⟨hx, bx, sx, h1, h2.below hb, h3⟩) (by first | rfl | simp) (fun w' hw' hctx => ?_) (fun u15 => ?_)
  · obtain ⟨cs, hu, bx, sx, rfl, hm, hmb, hrq, hro⟩ := hctx.1
    subst hu
    obtain ⟨qa, qc, hqf, -, -⟩ := hrq.form
    subst hqf
    exact ⟨.pointer (some ⟨w'.heap.size, 0, none⟩), w'.alloc (.cells #[.int .u8 A.c, .map (some bx), .slice qa A.wt.length qc] 58), by go_simp, Below.allocs _ _, copy_done ((below_tr hdr hw')) hm hmb hrq hro⟩
  simp only [Act.put, List.setIfInBounds_toArray, List.set_cons_zero, List.set_cons_succ]
  refine RX.seqP_make (fun W v => ∃ hx bx sx, v = .pointer (some ⟨hx, 0, none⟩) ∧ LkM W hx bx sx n A ∧ ∀ k, LkF hx bx sx k → w.heap.size ≤ k) (fun w w' v hb h => by obtain ⟨hx, bx, sx, h1, h2, h3⟩ := h; exact ⟨hx, bx, sx, h1, h2.below hb, h3⟩) (by first | rfl | simp) (fun w' hw' hctx => ?_) (fun u16 => ?_)
  · obtain ⟨hx, bx, sx, hu, hlk, hf⟩ := hctx.1
    subst hu
    exact ⟨.pointer (some ⟨hx, 0, none⟩), w', by go_simp, Below.refl _ _, ⟨hx, bx, sx, rfl, hlk, hf⟩⟩
  simp only [Act.put, List.setIfInBounds_toArray, List.set_cons_zero, List.set_cons_succ]
  refine RX.seqP_nil (fun w2 hR hctx _ => ?_)
  have hb2 := below_tr hdr hR
  obtain ⟨hx, bx, sx, hu, hlk, hf⟩ := hctx.1
  subst hu
  have HE := Lib.hid (And.intro hlk (And.intro hf hb2))
  clear hdr hb2 hlk hf hctx hR
  go_wp2_with fail
  go_ret
  exact ⟨hx, bx, sx, rfl, HE.out.1, HE.out.2.1, HE.out.2.2⟩

end Go.Proofs.Ytjjhmfpdbjflmaa
