/-
  expr.fold at values: what an expression comes to.
-/
import Derived.Test.YtflclkmhdngmaaaEWork2
import Derived.Laws.EntriesVeiled
namespace Go.Proofs.Ytflclkmhdngmaaa
open Go.RowKit

def appV (op : Int) (x y : Val) : Val × Int := (⟨(appR op x y).k, (appR op x y).n, 0, ⟨#[]⟩⟩, (appR op x y).e)

/-- What a valid expression comes to over a row. -/
def foldV (r : Rw) (e : Ex) : Val × Int := e.fold (leafV r) appV Val.zero

theorem foldV_eq (r : Rw) (e : Ex) : foldV r e =
    if arity e.op = 0 then (leafV r e, 0)
    else if (foldV r (e.kid 0)).2 ≠ 0 then foldV r (e.kid 0)
    else if arity e.op = 1 then appV e.op (foldV r (e.kid 0)).1 Val.zero
    else if (foldV r (e.kid 1)).2 ≠ 0 then foldV r (e.kid 1)
    else appV e.op (foldV r (e.kid 0)).1 (foldV r (e.kid 1)).1 := Ex.fold_eq _ _ _ _

theorem ofN_I64 (b : Bool) : I64 (ofN b) := by cases b <;> decide

/-- An answer of package logic: its number is within 64 bits, beside an error it is the zero value, and the errors are two. -/
structure Tidy (r : Res) : Prop where
  n : I64 r.n
  z : r.e ≠ 0 → r.k = 0 ∧ r.n = 0
  e : r.e = 0 ∨ r.e = 60 ∨ r.e = 61

theorem tidy_zero (e : Int) (he : e = 0 ∨ e = 60 ∨ e = 61) : Tidy ⟨0, 0, e⟩ := ⟨by show I64 0; decide, fun _ => ⟨rfl, rfl⟩, he⟩
theorem tidy_of (b : Bool) : Tidy ⟨2, ofN b, 0⟩ := ⟨ofN_I64 b, fun h => absurd rfl h, .inl rfl⟩

theorem calcR_tidy (k k' s : Int) : Tidy (calcR k k' s) := by
  unfold calcR
  cases fitB 1 k && fitB 1 k'
  · exact tidy_zero 60 (by decide)
  · cases nullB k || nullB k'
    · cases h : inR s
      · exact tidy_zero 61 (by decide)
      · exact ⟨inR_iff.1 h, fun h => absurd rfl h, .inl rfl⟩
    · exact tidy_zero 0 (by decide)

theorem connectR_tidy (k n k' n' : Int) (d : Bool) : Tidy (connectR k n k' n' d) := by
  unfold connectR
  cases fitB 2 k && fitB 2 k'
  · exact tidy_zero 60 (by decide)
  · cases knownB k n d || knownB k' n' d
    · cases nullB k || nullB k'
      · exact tidy_of _
      · exact tidy_zero 0 (by decide)
    · exact tidy_of _

theorem notR_tidy (k n : Int) : Tidy (notR k n) := by
  unfold notR
  cases fitB 2 k
  · exact tidy_zero 60 (by decide)
  · cases nullB k
    · exact tidy_of _
    · exact tidy_zero 0 (by decide)

theorem rel_tidy (z : Bool) (p : Prop) [Decidable p] (b : Bool) : Tidy (cond z ⟨0, 0, 0⟩ (if p then ⟨2, ofN b, 0⟩ else ⟨0, 0, 60⟩)) := by
  cases z
  · show Tidy (if p then _ else _)
    split
    · exact tidy_of _
    · exact tidy_zero 60 (by decide)
  · exact tidy_zero 0 (by decide)

theorem meetR_tidy (x y : Val) : Tidy (meetR x y) := by
  unfold meetR
  cases nullB x.k || nullB y.k
  · cases decide (x.k = 4) && decide (y.k = 4)
    · exact tidy_zero 60 (by decide)
    · exact tidy_of _
  · exact tidy_zero 0 (by decide)

theorem appR_tidy (op : Int) (x y : Val) : Tidy (appR op x y) := by
  unfold appR
  repeat' split
  all_goals first
    | exact calcR_tidy _ _ _
    | exact tidy_of _
    | exact notR_tidy _ _
    | exact connectR_tidy _ _ _ _ _
    | exact meetR_tidy _ _
    | exact rel_tidy _ _ _

theorem foldV_I64 (r : Rw) (hr : ∀ i, i < r.len → (r.vals i).wf) : ∀ (e : Ex) (W : World), okB mayV (hasBelow r.len) e = true → e.In W → I64 (foldV r e).1.n := by
  intro e
  induction e using Ex.ind with
  | h e ih =>
    intro W hok hin
    have hok2 := hok
    unfold okB at hok2
    rw [Ex.allB_eq, Bool.and_eq_true, allTo_iff] at hok2
    obtain ⟨hf, hk⟩ := hok2
    have hfm := hf
    unfold formedB at hf
    rw [Bool.and_eq_true, decide_eq_true_eq] at hf
    obtain ⟨hl, hf⟩ := hf
    have ihk := fun i (hi : i < e.len) => ih i hi W (hk i hi) (hin.kid' hi)
    unfold foldV at ihk ⊢
    rw [Ex.fold_eq]
    by_cases h0 : arity e.op = 0
    · rw [if_pos h0]
      show I64 (leafV r e).n
      unfold leafV
      by_cases h2 : e.op = 2
      · rw [if_pos h2]
        rw [if_neg (by omega), if_pos h2, Bool.and_eq_true] at hf
        have := hf.2
        simp only [hasBelow, Bool.and_eq_true, decide_eq_true_eq] at this
        exact (hr _ (by omega)).n
      · rw [if_neg h2]; exact hin.wf'.n
    · rw [if_neg h0]
      have a2 := arity_le e.op
      split
      · exact ihk 0 (by omega)
      · split
        · exact (appR_tidy _ _ _).n
        · split
          · exact ihk 1 (by omega)
          · exact (appR_tidy _ _ _).n

/-- What the closure answers is what the expression comes to. -/
theorem work_is (W0 : World) (gr gl gw ga : Nat) (r : Rw) (hsf : Sf W0 gr gl gw ga r) (hrin : r.In W0) : ∀ (e : Ex), okB mayV (hasBelow r.len) e = true → e.In W0 → WorkC W0 gl gw ga e (foldV r e).1 (foldV r e).2 := by
  intro e
  induction e using Ex.ind with
  | h e ih =>
    intro hok hin
    have hok2 := hok
    unfold okB at hok2
    rw [Ex.allB_eq, Bool.and_eq_true, allTo_iff] at hok2
    obtain ⟨hf, hk⟩ := hok2
    unfold formedB at hf
    rw [Bool.and_eq_true, decide_eq_true_eq] at hf
    obtain ⟨hl, hf⟩ := hf
    have ihk := fun i (hi : i < e.len) => ih i hi (hk i hi) (hin.kid' hi)
    have ihn := fun i (hi : i < e.len) => foldV_I64 r hrin.wf (e.kid i) W0 (hk i hi) (hin.kid' hi)
    have a2 := arity_le e.op
    by_cases h0 : arity e.op = 0
    · have e1 : foldV r e = (leafV r e, 0) := by rw [foldV_eq, if_pos h0]
      rw [e1]
      refine work_leaf W0 gr gl gw ga r hsf hrin e h0 (fun h2 => ?_) _ rfl
      rw [if_neg (by omega), if_pos h2, Bool.and_eq_true] at hf
      exact hf.2
    · have k0 := ihk 0 (by omega)
      have n0 := ihn 0 (by omega)
      by_cases f0 : (foldV r (e.kid 0)).2 = 0
      · rw [f0] at k0
        by_cases h1 : arity e.op = 1
        · have e1 : foldV r e = appV e.op (foldV r (e.kid 0)).1 Val.zero := by
            rw [foldV_eq, if_neg h0, if_neg (fun h => h f0), if_pos h1]
          rw [e1]
          exact work_one W0 gr gl gw ga r hsf e hin h1 (by omega) _ k0 n0 _ rfl
        · have h2 : arity e.op = 2 := by omega
          have k1 := ihk 1 (by omega)
          by_cases f1 : (foldV r (e.kid 1)).2 = 0
          · rw [f1] at k1
            have e1 : foldV r e = appV e.op (foldV r (e.kid 0)).1 (foldV r (e.kid 1)).1 := by
              rw [foldV_eq, if_neg h0, if_neg (fun h => h f0), if_neg h1, if_neg (fun h => h f1)]
            rw [e1]
            exact work_two W0 gr gl gw ga r hsf e hin h2 (by omega) _ _ k0 k1 n0 (ihn 1 (by omega)) _ rfl
          · have e1 : foldV r e = foldV r (e.kid 1) := by
              rw [foldV_eq, if_neg h0, if_neg (fun h => h f0), if_neg h1, if_pos f1]
            rw [e1]
            exact work_two1 W0 gr gl gw ga r hsf e hin h2 (by omega) _ _ _ k0 k1 f1
      · have e1 : foldV r e = foldV r (e.kid 0) := by
          rw [foldV_eq, if_neg h0, if_pos f0]
        rw [e1]
        by_cases h1 : arity e.op = 1
        · exact work_one0 W0 gr gl gw ga r hsf e hin h1 (by omega) _ _ k0 f0
        · exact work_two0 W0 gr gl gw ga r hsf e hin (by omega) (by omega) _ _ k0 f0

/-- The world in which expr.fold calls its closure. -/
theorem fold_world (W : World) (n gr : Nat) (hn : W.heap.size = n) (r : Rw) (hr : gr < n) (hc : W.cell? ⟨gr, 0, none⟩ = some (.slice r.a r.len r.cap)) (e : Ex) : ∃ V1 V2,
    (((W.alloc (.cells #[.int .u8 e.op, .int .u8 e.v.k, .int .i64 e.v.n, .int .i64 e.v.u, .string e.v.t, .int .i64 e.m, .slice e.a e.len e.cap] 26)).alloc (.cells #[.func (.func 35) #[] #[.pointer (some ⟨gr, 0, none⟩)]] 66)).alloc (.cells #[.func (.func 36) #[] #[]] 67)).alloc (.cells #[.int .u8 0, .int .i64 0, .int .i64 0, .string ⟨#[]⟩] 23) = V1 ∧
    V1.alloc (.cells #[.func (.func 54) #[] #[.pointer (some ⟨n + 1, 0, none⟩), .pointer (some ⟨n + 1 + 1 + 1 + 1, 0, none⟩), .pointer (some ⟨n + 1 + 1, 0, none⟩)]] 84) = V2 ∧
    V1.heap.size = n + 1 + 1 + 1 + 1 ∧ Sf V2 gr (n + 1) (n + 1 + 1 + 1 + 1) (n + 1 + 1) r ∧ Below W.heap.size W V2 ∧ BoxE V2 n e ∧ Boxed V2 (n + 1 + 1 + 1) 0 0 0 ⟨#[]⟩ ∧ Soft V2 (n + 1 + 1 + 1) := by
  subst hn
  have hb : Below W.heap.size W ((((((W.alloc (.cells #[.int .u8 e.op, .int .u8 e.v.k, .int .i64 e.v.n, .int .i64 e.v.u, .string e.v.t, .int .i64 e.m, .slice e.a e.len e.cap] 26)).alloc (.cells #[.func (.func 35) #[] #[.pointer (some ⟨gr, 0, none⟩)]] 66)).alloc (.cells #[.func (.func 36) #[] #[]] 67)).alloc (.cells #[.int .u8 0, .int .i64 0, .int .i64 0, .string ⟨#[]⟩] 23))).alloc (.cells #[.func (.func 54) #[] #[.pointer (some ⟨W.heap.size + 1, 0, none⟩), .pointer (some ⟨W.heap.size + 1 + 1 + 1 + 1, 0, none⟩), .pointer (some ⟨W.heap.size + 1 + 1, 0, none⟩)]] 84)) :=
    (((((Below.refl _ W).alloc (Nat.le_refl _) _).alloc (by simp) _).alloc (by simp <;> omega) _).alloc (by simp <;> omega) _).alloc (by simp <;> omega) _
  refine ⟨_, _, rfl, rfl, by simp, ⟨by rw [hb.cell hr]; exact hc, ?_, ?_, ?_, by simp <;> omega, by simp <;> omega, by simp, by simp <;> omega⟩, hb, ⟨?_, ?_, ?_, ?_, ?_, ?_, ?_, by simp <;> omega⟩, ⟨?_, ?_, ?_, ?_, by simp⟩, ⟨?_, ?_, ?_, ?_, by simp⟩⟩ <;> go_simp

set_option maxRecDepth 100000 in
set_option maxHeartbeats 2000000 in
theorem fold_is (e : Ex) (gr : Nat) (r : Rw) (w : World) (hgr : gr < w.heap.size) (hc : w.cell? ⟨gr, 0, none⟩ = some (.slice r.a r.len r.cap)) (hrin : r.In w) (hok : okB mayV (hasBelow r.len) e = true) (hin : e.In w) (v : Val) (f : Int) (hv : foldV r e = (v, f)) :
    Calls Try.prog 34 #[.agg #[.int .u8 e.op, .int .u8 e.v.k, .int .i64 e.v.n, .int .i64 e.v.u, .string e.v.t, .int .i64 e.m, .slice e.a e.len e.cap], .func (.func 35) #[] #[.pointer (some ⟨gr, 0, none⟩)], .func (.func 36) #[] #[]] w fun x w' => x = .returned (.tuple #[.agg #[.int .u8 v.k, .int .i64 v.n, .int .i64 v.u, .string v.t], .int .i64 f]) ∧ Below w.heap.size w w' := by
  obtain ⟨n, hn⟩ : ∃ n, w.heap.size = n := ⟨_, rfl⟩
  obtain ⟨V1, V2, hV1, hV2, hs, hsf, hb, hE, hR, hS⟩ := fold_world w n gr hn r (by omega) hc e
  have HC := work_is V2 gr _ _ _ r hsf (hrin.below hb) e hok (hin.below hb) V2 (Below.refl _ _)
  rw [hv] at HC
  have HCC := Lib.hid HC
  have HB := Lib.hid hb
  have HR := Lib.hid hR
  have HS := Lib.hid hS
  have HN := Lib.hid hn
  have hcw := hsf.cw
  obtain ⟨e0, e1, e2, e3, e4, e5, e6, e7⟩ := hE
  clear HC hb hR hS hsf hv hok hin hrin hc hgr
  go_enter Try.func34, Try.ntmps34
  go_wp2_with fail
  refine HCC.out.mono ?_
  rintro x w2 ⟨rfl, hb2⟩
  have HW2 := Lib.hid (below_tr HB.out hb2)
  obtain ⟨r0, r1, r2, r3, r4⟩ := HR.out.below hb2
  obtain ⟨s0, s1, s2, s3, s4⟩ := HS.out.below hb2
  clear hb2 e0 e1 e2 e3 e4 e5 e6 e7 hV1 hV2 hcw
  go_wp2_with fail
  have hwz := below_put4 HW2.out (by have := HN.out; omega : w.heap.size ≤ n + 1 + 1 + 1) v.k v.n v.u v.t
  obtain ⟨q0, q1, q2, q3, q4⟩ := boxed_put4 (⟨r0, r1, r2, r3, r4⟩ : Boxed w2 (n + 1 + 1 + 1) 0 0 0 ⟨#[]⟩) v.k v.n v.u v.t
  exact bodyPost_ret (w := put4 w2 (n + 1 + 1 + 1) v.k v.n v.u v.t) (v := .tuple #[.agg #[.int .u8 v.k, .int .i64 v.n, .int .i64 v.u, .string v.t], .int .i64 f]) (by simp [results, Try.results34, go_sem, q0, q1, q2, q3]) rfl ⟨rfl, hwz⟩
end Go.Proofs.Ytflclkmhdngmaaa
