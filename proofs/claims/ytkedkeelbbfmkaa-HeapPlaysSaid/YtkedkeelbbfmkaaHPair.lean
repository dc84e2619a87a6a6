/-
  A heap and the document's own, side by side (stage 11).
-/
import Derived.Test.YtkedkeelbbfmkaaHRSame
import Derived.Test.YtkedkeelbbfmkaaHRefs
import Derived.Test.YtkedkeelbbfmkaaHMore2
namespace Go.Proofs.Ytkedkeelbbfmkaa
open Go.RowKit
set_option linter.unusedVariables false

/-- At h lies a heap that tells A, at x the document's that tells B, apart from one another; both are newer than w. -/
def Par (w W : World) (h : Nat) (A : Ab) (z x : Nat) (B : Ab) (y : Nat) : Prop :=
  ∃ (F : Nat → Prop) (ls gs : Value) (gl : List Gvn) (R : Nat → Prop), One F w W h A z ∧ Rf W x B y F ls gs gl R ∧ ∀ k, F k → w.heap.size ≤ k

section
variable {w W W' : World} {h z x y : Nat} {A B : Ab}
theorem Par.bel (H : Par w W h A z x B y) : Below w.heap.size w W := by obtain ⟨F, ls, gs, gl, R, h1, h2, h3⟩ := H; exact h1.bel
theorem Par.ok (H : Par w W h A z x B y) : A.Ok := by obtain ⟨F, ls, gs, gl, R, h1, h2, h3⟩ := H; exact h1.ok
theorem Par.len (H : Par w W h A z x B y) : A.pl.length ≤ z := by obtain ⟨F, ls, gs, gl, R, h1, h2, h3⟩ := H; exact h1.len
theorem Par.below (H : Par w W h A z x B y) (hb : Below W.heap.size W W') : Par w W' h A z x B y := by obtain ⟨F, ls, gs, gl, R, h1, h2, h3⟩ := H; exact ⟨F, ls, gs, gl, R, h1.below hb, h2.below hb, h3⟩
theorem par_new (H : One (fun _ => False) w W h Ab.new 0) : Calls Try.prog 27 #[] W fun e w' => ∃ x, e = .returned (.pointer (some ⟨x, 0, none⟩)) ∧ Par w w' h Ab.new 0 x Ab.new 0 := by
  refine (rnew_is W).mono ?_
  rintro e w' ⟨rfl, ⟨gl, R, hr⟩, hb⟩
  exact ⟨_, rfl, _, _, _, gl, R, H.foreign hb _ (fun k hk => ⟨.inr (by rw [hk]; exact Nat.le_refl _), hr.lt k hk⟩), hr, fun k hk => by rw [hk]; exact H.bel.size⟩
theorem par_do (H : Par w W h A z x B y) (s : Stp) (ra : Option Addr) (rc n : Nat) (hn : s.t.row.length = n) (hl : n ≤ 1000000) (hw : s.wf) (hr : SlL W ra rc s.t.row) (hz : z ≤ 80000) :
    Calls Try.prog 28 #[stpV s (.slice ra n rc), .pointer (some ⟨h, 0, none⟩)] W fun e w' => e = .returned (.tuple #[.int .i64 (A.doV s), .int .i64 (A.doE s)]) ∧ Par w w' h (A.doA s) (z + 3) x B y := by
  obtain ⟨F, ls, gs, gl, R, h1, h2, h3⟩ := H
  refine (one_do h1 s ra rc n hn hl hw hr hz).mono ?_
  rintro e w' ⟨rfl, q1, q2⟩
  exact ⟨rfl, F, ls, gs, gl, R, q1, h2.stay q2, h3⟩
theorem Par.doc (H : Par w W h A z x B y) {f : FuncId} {args : Array Value} {e0 : Ending} {B' : Ab} {y' : Nat}
    (hc : ∀ F ls gs gl R, Rf W x B y F ls gs gl R → Calls Try.prog f args W fun e w' => e = e0 ∧ ∃ F' ls' gs' gl' R', Rf w' x B' y' F' ls' gs' gl' R' ∧ More W.heap.size F F' ∧ Touch F W w') :
    Calls Try.prog f args W fun e w' => e = e0 ∧ Par w w' h A z x B' y' := by
  obtain ⟨F, ls, gs, gl, R, h1, h2, h3⟩ := H
  refine (hc F ls gs gl R h2).mono ?_
  rintro e w' ⟨rfl, F', ls', gs', gl', R', q1, q2, q3⟩
  obtain ⟨G, g1, g2, g3, g4⟩ := h1
  refine ⟨rfl, F', ls', gs', gl', R', ⟨G, g1.apart q3 (fun k hk hf => (g4 k hf).1 hk), g2, g3.trans (q3.below (fun k hk => h3 k hk) g3.size), fun k hk => ⟨fun hg => ?_, q1.lt k hk⟩⟩, q1, fun k hk => ?_⟩
  · rcases q2.new k hk with e | e
    · exact (g4 k e).1 hg
    · have := g1.lt k hg; omega
  · rcases q2.new k hk with e | e
    · exact h3 k e
    · exact Nat.le_trans g3.size e
theorem par_put (H : Par w W h A z x B y) (t : Tup) (a : Option Addr) (c n : Nat) (hn : t.row.length = n) (h9 : n ≤ 1000000) (hz : y ≤ 40000) (hzl : B.pl.length ≤ 40000) (hr : SlL W a c t.row) :
    Calls Try.prog 29 #[.pointer (some ⟨x, 0, none⟩), tupV t (.slice a n c)] W fun e w' => e = .returned (.tuple #[.int .i64 (B.ptV t), .int .i64 (B.ptE t)]) ∧ Par w w' h A z x (B.pt t) (y + 1) :=
  H.doc fun F ls gs gl R h2 => rput_is W x B y F ls gs gl R t a c n hn h9 hz hzl hr h2
theorem par_kill (H : Par w W h A z x B y) (s av cv : Int) (hzl : B.pl.length ≤ 40000) (hok : B.Ok) :
    Calls Try.prog 30 #[.pointer (some ⟨x, 0, none⟩), .int .i64 s, .int .i64 av, .int .i64 cv] W fun e w' => e = .returned (.int .i64 (B.atE s)) ∧ Par w w' h A z x (B.kl s av cv) (y + 1) :=
  H.doc fun F ls gs gl R h2 => (rkill_is W x B y F ls gs gl R s av cv (by omega) hok h2).mono fun e w' ⟨he, F', ls', q1, q2, q3⟩ => ⟨he, F', ls', gs, gl, R, q1.more (Nat.le_succ y), q2, q3⟩
theorem par_free (H : Par w W h A z x B y) (s : Int) (hzl : B.pl.length ≤ 40000) (hok : B.Ok) :
    Calls Try.prog 31 #[.pointer (some ⟨x, 0, none⟩), .int .i64 s] W fun e w' => e = .returned (.int .i64 (B.atE s)) ∧ Par w w' h A z x (B.fe s) (y + 1) :=
  H.doc fun F ls gs gl R h2 => (rfree_is W x B y F ls gs gl R s (by omega) hok h2).mono fun e w' ⟨he, F', ls', q1, q2, q3⟩ => ⟨he, F', ls', gs, gl, R, q1.more (Nat.le_succ y), q2, q3⟩
theorem par_next (H : Par w W h A z x B y) (no : Int) (hz : y ≤ 40000) (hok : B.Ok) :
    Calls Try.prog 32 #[.pointer (some ⟨x, 0, none⟩), .int .i64 no] W fun e w' => e = .returned (.int .i64 (B.nxV no)) ∧ Par w w' h A z x (B.nx no) (y + 1) :=
  H.doc fun F ls gs gl R h2 => (rnext_is W x B y F ls gs gl R no (by omega) hok h2).mono fun e w' ⟨he, F', gs', gl', q1, q2, q3⟩ => ⟨he, F', ls, gs', gl', R, q1, q2, q3⟩
theorem par_at (H : Par w W h A z x B y) (s : Int) {t : Tup} {b : Bool} (hz : z ≤ 90000) (ht : A.atT s = t) (hb : A.atB s = b) :
    Calls Try.prog 12 #[.pointer (some ⟨h, 0, none⟩), .int .i64 s] W fun e w' => ∃ a c, e = .returned (.tuple #[tupV t (.slice a t.row.length c), .bool b]) ∧ Below W.heap.size W w' := by
  obtain ⟨F, ls, gs, gl, R, h1, h2, h3⟩ := H
  refine (one_at h1 s hz ht hb).mono ?_
  rintro e w' ⟨v, rfl, hr, -, -, q⟩
  obtain ⟨a, c, rfl, -, -⟩ := hr.form
  exact ⟨a, c, rfl, q⟩
theorem par_rat (H : Par w W h A z x B y) (s : Int) {t : Tup} {b : Bool} (hzl : B.pl.length ≤ 40000) (hok : B.Ok) (ht : B.atT s = t) (hb : B.atB s = b) :
    Calls Try.prog 33 #[.pointer (some ⟨x, 0, none⟩), .int .i64 s] W fun e w' => ∃ a c, e = .returned (.tuple #[tupV t (.slice a t.row.length c), .bool b]) ∧ Below W.heap.size W w' := by
  obtain ⟨F, ls, gs, gl, R, h1, h2, h3⟩ := H
  subst ht hb
  exact rat_is W x B y F ls gs gl R s (by omega) hok h2
theorem par_same (H : Par w W h A z x A y) (hz : z ≤ 1000) :
    Calls Try.prog 34 #[.pointer (some ⟨h, 0, none⟩), .pointer (some ⟨x, 0, none⟩)] W fun e w' => e = .returned (.bool true) ∧ Below W.heap.size W w' := by
  obtain ⟨F, ls, gs, gl, R, h1, h2, h3⟩ := H
  exact same_is W h x A z y F ls gs gl R (by omega) (by have := h1.len; omega) h1 h2
theorem par_ids (H : Par w W h A z x B y) (s : Int) (hs : I64 s) (hz : z ≤ 1000) :
    Calls Try.prog 18 #[.pointer (some ⟨h, 0, none⟩), .int .i64 s] W fun e w' => ∃ v, e = .returned v ∧ ∃ l, RowI w' v l ∧ A.IsIDs s l ∧ Below W.heap.size W w' := by
  obtain ⟨F, ls, gs, gl, R, h1, h2, h3⟩ := H
  refine (one_ids h1 s hs (by omega)).mono ?_
  rintro e w' ⟨v, rfl, l, q1, q2, -, -, q3⟩
  exact ⟨v, rfl, l, q1, q2, q3⟩
theorem par_rids (H : Par w W h A z x B y) (s : Int) (hzl : B.pl.length ≤ 40000) :
    Calls Try.prog 35 #[.pointer (some ⟨x, 0, none⟩), .int .i64 s] W fun e w' => ∃ v, e = .returned v ∧ ∃ m, RowI w' v m ∧ B.IsIDs s m ∧ Below W.heap.size W w' := by
  obtain ⟨F, ls, gs, gl, R, h1, h2, h3⟩ := H
  exact rids_is W x B y F ls gs gl R s (by omega) h2
theorem par_slots (H : Par w W h A z x B y) (s t : Int) (hs : I64 s) (ht : I64 t) (hz : z ≤ 1000) :
    Calls Try.prog 17 #[.pointer (some ⟨h, 0, none⟩), .int .i64 s, .int .i64 t] W fun e w' => ∃ v, e = .returned v ∧ RowI w' v (natI (A.slots s t)) ∧ Below W.heap.size W w' := by
  obtain ⟨F, ls, gs, gl, R, h1, h2, h3⟩ := H
  refine (one_slots h1 s t hs ht (by omega) rfl).mono ?_
  rintro e w' ⟨v, rfl, q1, -, -, q3⟩
  exact ⟨v, rfl, q1, q3⟩
theorem par_rslots (H : Par w W h A z x B y) (s t : Int) (hzl : B.pl.length ≤ 40000) :
    Calls Try.prog 36 #[.pointer (some ⟨x, 0, none⟩), .int .i64 s, .int .i64 t] W fun e w' => ∃ v, e = .returned v ∧ RowI w' v (natI (B.slots s t)) ∧ Below W.heap.size W w' := by
  obtain ⟨F, ls, gs, gl, R, h1, h2, h3⟩ := H
  exact rslots_is W x B y F ls gs gl R s t (by omega) h2
theorem par_copy (H : Par w W h A z x B y) (hz : z ≤ 1000) :
    Calls Try.prog 21 #[.pointer (some ⟨h, 0, none⟩)] W fun e w' => ∃ c, e = .returned (.pointer (some ⟨c, 0, none⟩)) ∧ Par w w' c A z x B y ∧ Below W.heap.size W w' := by
  obtain ⟨F, ls, gs, gl, R, ⟨G, g1, g2, g3, g4⟩, h2, h3⟩ := H
  refine (copy_std W h A z G (by omega) g1).mono ?_
  rintro e w' ⟨c, rfl, G2, q1, q2, q3⟩
  exact ⟨c, rfl, ⟨F, ls, gs, gl, R, ⟨G2, q1, fun k hk => Nat.le_trans g3.size (q2 k hk), below_tr g3 q3, fun k hk => ⟨fun hg => by have := q2 k hg; have := (g4 k hk).2; omega, Nat.lt_of_lt_of_le (g4 k hk).2 q3.size⟩⟩, h2.below q3, h3⟩, q3⟩
end

end Go.Proofs.Ytkedkeelbbfmkaa
