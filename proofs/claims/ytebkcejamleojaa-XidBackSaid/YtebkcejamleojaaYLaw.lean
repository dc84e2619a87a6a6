/-
  What the laws of stage 9 lean on: a table of their own, what is told of all transactions, steps.
-/
import Derived.Test.YtebkcejamleojaaYDo
namespace Go.Proofs.Ytebkcejamleojaa
open Go.RowKit
set_option linter.unusedVariables false

/-- A table that is newer than the world w0, of which what was there is as it was. -/
structure One (w0 W : World) (t : Nat) (T : Tb) (F : Nat → Prop) : Prop where
  is : Is W t T F
  far : ∀ k, F k → w0.heap.size ≤ k
  bel : Below w0.heap.size w0 W

section
variable {w0 W W' : World} {t : Nat} {T T' : Tb} {F : Nat → Prop}

theorem One.below (h : One w0 W t T F) (hb : Below W.heap.size W W') : One w0 W' t T F := ⟨h.is.below hb, h.far, below_tr h.bel hb⟩

theorem one_new (hb : Below w0.heap.size w0 W) : Calls Try.prog 21 #[] W fun e w' => ∃ t F, e = .returned (.pointer (some ⟨t, 0, none⟩)) ∧ One w0 w' t Tb.new F ∧ (∀ k, F k → W.heap.size ≤ k) ∧ Below W.heap.size W w' := by
  refine (new_is W).mono ?_
  rintro e w' ⟨t, F, rfl, h1, h2, h3⟩
  exact ⟨t, F, rfl, ⟨h1, fun k hk => Nat.le_trans hb.size (h2 k hk), below_tr hb h3⟩, h2, h3⟩

/-- What a call that changes the table leaves. -/
def Next (w0 W : World) (t : Nat) (F : Nat → Prop) (T' : Tb) (v : Value) (e : Ending) (w' : World) : Prop := ∃ F', e = .returned v ∧ One w0 w' t T' F' ∧ Touch F W w' ∧ ∀ k, F' k → F k ∨ W.heap.size ≤ k

theorem one_begin (h : One w0 W t T F) (hn : T.n ≤ 1000) (p a b : Int) (hp : I64 p) (ha : T.begI p = a) (hb : T.begE p = b) (hT : T.begT p = T') :
    Calls Try.prog 10 #[.pointer (some ⟨t, 0, none⟩), .int .i64 p] W fun e w' => Next w0 W t F T' (.tuple #[.int .i64 a, .int .i64 b]) e w' := by
  refine (begin_is W t T F (by omega) p hp h.is).mono ?_
  rintro e w' ⟨F', rfl, h1, h2, h3⟩
  rw [ha, hb]
  rw [hT] at h1
  exact ⟨F', rfl, ⟨h1, fun k hk => (h2 k hk).elim (h.far k) (Nat.le_trans h.bel.size), h.bel.trans (h3.below h.far h.bel.size)⟩, h3, h2⟩

theorem one_commit (h : One w0 W t T F) (hn : T.n ≤ 1000) (hl : T.last ≤ 1000) (id b : Int) (hp : I64 id) (hb : T.err id = b) (hT : T.comT id = T') :
    Calls Try.prog 12 #[.pointer (some ⟨t, 0, none⟩), .int .i64 id] W fun e w' => Next w0 W t F T' (.int .i64 b) e w' := by
  refine (commit_is W t T F hn hl id hp h.is).mono ?_
  rintro e w' ⟨rfl, h1, h3⟩
  rw [hb]
  rw [hT] at h1
  exact ⟨F, rfl, ⟨h1, h.far, h.bel.trans (h3.below h.far h.bel.size)⟩, h3, fun k hk => .inl hk⟩

theorem one_abort (h : One w0 W t T F) (hn : T.n ≤ 1000) (id b : Int) (hp : I64 id) (hb : T.err id = b) (hT : T.aboT id = T') :
    Calls Try.prog 13 #[.pointer (some ⟨t, 0, none⟩), .int .i64 id] W fun e w' => Next w0 W t F T' (.int .i64 b) e w' := by
  refine (abort_is W t T F hn id hp h.is).mono ?_
  rintro e w' ⟨rfl, h1, h3⟩
  rw [hb]
  rw [hT] at h1
  exact ⟨F, rfl, ⟨h1, h.far, h.bel.trans (h3.below h.far h.bel.size)⟩, h3, fun k hk => .inl hk⟩

theorem one_do (h : One w0 W t T F) (hn : T.n ≤ 1000) (hl : T.last ≤ 1000) (kind id a b : Int) (hk : 0 ≤ kind ∧ kind ≤ 255) (hp : I64 id) (ha : T.stpI kind id = a) (hb : T.stpE kind id = b) (hT : T.stp kind id = T') :
    Calls Try.prog 23 #[.agg #[.int .u8 kind, .int .i64 id], .pointer (some ⟨t, 0, none⟩)] W fun e w' => Next w0 W t F T' (.tuple #[.int .i64 a, .int .i64 b]) e w' := by
  refine (do_is W t T F hn hl kind id hk hp h.is).mono ?_
  rintro e w' ⟨F', rfl, h1, h2, h3⟩
  rw [ha, hb]
  rw [hT] at h1
  exact ⟨F', rfl, ⟨h1, fun k hk => (h2 k hk).elim (h.far k) (Nat.le_trans h.bel.size), h.bel.trans (h3.below h.far h.bel.size)⟩, h3, h2⟩

theorem one_state (h : One w0 W t T F) (id a : Int) (hi : I64 id) (ha : T.g T.st id = a) : Calls Try.prog 14 #[.pointer (some ⟨t, 0, none⟩), .int .i64 id] W fun e w' => e = .returned (.int .u8 a) ∧ Below W.heap.size W w' := by
  have := st_is W t T F id hi h.is.tab
  rwa [ha] at this
theorem one_top (h : One w0 W t T F) (id a : Int) (hi : I64 id) (ha : T.g T.top id = a) : Calls Try.prog 15 #[.pointer (some ⟨t, 0, none⟩), .int .i64 id] W fun e w' => e = .returned (.int .i64 a) ∧ Below W.heap.size W w' := by
  have := top_is W t T F id hi h.is.tab
  rwa [ha] at this
theorem one_counts (h : One w0 W t T F) (id : Int) (b : Bool) (hi : I64 id) (hb : T.cnt id = b) : Calls Try.prog 19 #[.pointer (some ⟨t, 0, none⟩), .int .i64 id] W fun e w' => e = .returned (.bool b) ∧ Below W.heap.size W w' := counts_is W t T F id hi h.is.tab b hb
theorem one_number (h : One w0 W t T F) (hn : T.n ≤ 1000) (id a : Int) (hi : I64 id) (ha : T.numI id = a) : Calls Try.prog 16 #[.pointer (some ⟨t, 0, none⟩), .int .i64 id] W fun e w' => e = .returned (.int .i64 a) ∧ Below W.heap.size W w' := by
  have := number_is W t T F id hi (by omega) h.is
  rwa [ha] at this
theorem one_last (h : One w0 W t T F) (a : Int) (ha : (T.last : Int) = a) : Calls Try.prog 17 #[.pointer (some ⟨t, 0, none⟩)] W fun e w' => e = .returned (.int .i64 a) ∧ Below W.heap.size W w' := by
  have := last_is W t T F h.is.tab
  rwa [ha] at this
theorem one_len (h : One w0 W t T F) (a : Int) (ha : (T.n : Int) = a) : Calls Try.prog 18 #[.pointer (some ⟨t, 0, none⟩)] W fun e w' => e = .returned (.int .i64 a) ∧ Below W.heap.size W w' := by
  have := len_is W t T F h.is.tab
  rwa [ha] at this
end

/-! ### What is told of all -/

def recS (T : Tb) (j : Nat) : List Value := [.int .u8 (T.g T.st ((j : Int) + 1)), .int .i64 (T.g T.top ((j : Int) + 1)), .int .i64 (T.numI ((j : Int) + 1)), .bool (T.cnt ((j : Int) + 1))]

/-- A slice of all that is told of the table T, in blocks of G. -/
structure Seen (G : Nat → Prop) (W : World) (s : Value) (n : Nat) (T : Tb) : Prop where
  row : RowF 47 4 W s n (recS T)
  on : ∀ k, s.ownBlock = some k → G k

theorem Seen.stay {G : Nat → Prop} {W W' : World} {s : Value} {n : Nat} {T : Tb} (h : Seen G W s n T) (hs : Stay G W W') : Seen G W' s n T := ⟨h.row.stay hs h.on, h.on⟩
theorem Seen.below {G : Nat → Prop} {W W' : World} {s : Value} {n : Nat} {T : Tb} (h : Seen G W s n T) (hb : Below W.heap.size W W') : Seen G W' s n T := ⟨h.row.below hb, h.on⟩

theorem info_s : (Try.prog.info? 47).map (fun i => (i.zero, i.size, i.bytes)) = some (some (.agg #[.int .u8 0, .int .i64 0, .int .i64 0, .bool false]), 4, 32) := by kernel_rfl

/-- One more is told. -/
theorem seen_push {W : World} {s : Value} {T : Tb} {n1 i : Nat} (h : RowF 47 4 W s i (recS T)) (hb : n1 ≤ W.heap.size) (hon : ∀ k, s.ownBlock = some k → n1 ≤ k) (hi : i ≤ 100000) (v0 v1 v2 v3 : Value) (hv : recS T i = [v0, v1, v2, v3]) :
    ∃ a' c' W', (∀ ty, (Builtin.append_ #[44, 44] ty #[s, .slice (some ⟨W.heap.size, 0, none⟩) 1 1]).run Try.prog (W.alloc (.cells #[v0, v1, v2, v3] 47)) = .ok (.slice a' (i + 1) c') W') ∧ RowF 47 4 W' (.slice a' (i + 1) c') (i + 1) (recS T) ∧ (∀ k, (Value.slice a' (i + 1) c').ownBlock = some k → n1 ≤ k) ∧ Below n1 W W' := by
  obtain ⟨i0, hi0, hz, hsz, hby⟩ := info_parts info_s
  have hal := Below.allocs W (.cells #[v0, v1, v2, v3] 47)
  have hlit := Lit.new W 47 [v0, v1, v2, v3]
  have h1 : ∀ v ∈ [v0, v1, v2, v3], v.oneCell' = true := by
    rw [← hv]
    intro v hv
    simp only [recS, List.mem_cons, List.not_mem_nil, or_false] at hv
    rcases hv with rfl | rfl | rfl | rfl <;> rfl
  obtain ⟨s', W', hrun, hrow, hg, hown⟩ := (h.below hal).append (P := Try.prog) 44 44 i0 _ 32 Try.underlying44 hi0 hz hsz hby rfl (by decide) (by decide) (b := W.heap.size) (k := 1) (c := 1) (q := fun _ => [v0, v1, v2, v3])
    (fun j hj o v hv => by
      obtain rfl : j = 0 := by omega
      rw [Nat.zero_mul, Nat.zero_add]
      exact hlit.cell hv) (fun _ _ => rfl) (fun _ _ => h1) (by omega)
  obtain ⟨a', c', rfl, _, _⟩ := hrow.form
  refine ⟨a', c', W', fun ty => hrun, hrow.congr fun j hj => ?_, fun k hk => ?_, (hal.mono hb).grown hg (Nat.le_trans hb hal.size) hon⟩
  · by_cases hji : j < i
    · rw [if_pos hji]
    · obtain rfl : j = i := by omega
      rw [if_neg hji, hv]
  · rcases hown with e | e
    · rw [e] at hk; exact hon k hk
    · rw [e] at hk
      have := hal.size
      injection hk with hk
      omega

/-! ### Steps -/

structure Stp where
  kind : Int
  id : Int

def recP (l : List Stp) (j : Nat) : List Value := match l[j]? with | some s => [.int .u8 s.kind, .int .i64 s.id] | none => []

/-- A slice of the steps l. -/
structure SlSt (W : World) (a : Option Addr) (c : Nat) (l : List Stp) : Prop where
  lc : l.length ≤ c
  cm : c ≤ maxLen
  at' : l ≠ [] → ∃ b o, a = some ⟨b, o, none⟩ ∧ b < W.heap.size ∧ ∀ (i : Nat) s, l[i]? = some s → W.cell? ⟨b, o + i * 2, none⟩ = some (.int .u8 s.kind) ∧ W.cell? ⟨b, o + i * 2 + 1, none⟩ = some (.int .i64 s.id)
  wf : ∀ s ∈ l, (0 ≤ s.kind ∧ s.kind ≤ 255) ∧ I64 s.id

theorem SlSt.below {W W' : World} {a : Option Addr} {c : Nat} {l : List Stp} (h : SlSt W a c l) (hb : Below W.heap.size W W') : SlSt W' a c l :=
  ⟨h.lc, h.cm, fun hl => by
    obtain ⟨b, o, e, hlt, hx⟩ := h.at' hl
    exact ⟨b, o, e, Nat.lt_of_lt_of_le hlt hb.size, fun i s hs => ⟨by rw [hb.cell hlt]; exact (hx i s hs).1, by rw [hb.cell hlt]; exact (hx i s hs).2⟩⟩, h.wf⟩

theorem at_st {W : World} {a : Option Addr} {c : Nat} {l : List Stp} (h : SlSt W a c l) {i : Nat} {s : Stp} (hs : l[i]? = some s) : ∃ b o, a = some ⟨b, o, none⟩ ∧ b < W.heap.size ∧ W.cell? ⟨b, o + i * 2, none⟩ = some (.int .u8 s.kind) ∧ W.cell? ⟨b, o + i * 2 + 1, none⟩ = some (.int .i64 s.id) := by
  obtain ⟨b, o, ea, hl, hx⟩ := h.at' (by rintro rfl; simp at hs)
  exact ⟨b, o, ea, hl, (hx i s hs).1, (hx i s hs).2⟩

/-- All steps done, one behind the other. -/
def Tb.run (T : Tb) : List Stp → Tb
  | [] => T
  | s :: l => (T.stp s.kind s.id).run l
theorem Tb.run_snoc (T : Tb) (l : List Stp) (s : Stp) : T.run (l ++ [s]) = (T.run l).stp s.kind s.id := by
  induction l generalizing T with
  | nil => rfl
  | cons x l ih => exact ih _
theorem Tb.Ok.run {T : Tb} (h : T.Ok) (l : List Stp) : (T.run l).Ok := by
  induction l generalizing T with
  | nil => exact h
  | cons x l ih => exact ih (h.stp _ _)
theorem Tb.Small.run {T : Tb} {B : Nat} (h : T.Small B) (l : List Stp) : (T.run l).Small (B + l.length) := by
  induction l generalizing T B with
  | nil => exact h
  | cons x l ih =>
    have := ih (h.stp x.kind x.id)
    rwa [show B + 1 + l.length = B + (x :: l).length by simp; omega] at this
theorem Tb.new_small : Tb.new.Small 0 := ⟨Nat.le_refl _, Nat.le_refl _⟩

/-- What all is told as: walked. -/
def AllS (W : World) (T : Tb) (e : Ending) (w' : World) : Prop := ∃ a c, e = .returned (.slice a T.n c) ∧ Seen (fun k => W.heap.size ≤ k) w' (.slice a T.n c) T.n T ∧ Below W.heap.size W w'

set_option maxRecDepth 100000 in
set_option maxHeartbeats 4000000 in
theorem all_is (W : World) (t : Nat) (T : Tb) (F : Nat → Prop) (hn : T.n ≤ 1000) (h : Is W t T F) : Calls Try.prog 32 #[.pointer (some ⟨t, 0, none⟩)] W fun e w' => AllS W T e w' := by
  obtain ⟨n, hn9⟩ : ∃ n, T.n = n := ⟨_, rfl⟩
  have HI := Lib.hid h
  have HN := Lib.hid hn9
  have HB := Lib.hid (Below.refl W.heap.size W)
  have HR : Hid (RowF 47 4 W (.slice none 0 0) 0 (recS T)) := Lib.hid (RowF.nil _ _ _ _)
  have hn8 : n ≤ 1000 := by omega
  unfold AllS
  rw [hn9]
  clear h hn9 hn
  go_enter Try.func32, Try.ntmps32
  go_wp2_with fail
  go_loopg [3, 4] n (fun gg s3 s4 wr => ∃ (i : Nat) (a : Option Addr) (c : Nat), s3 = .slice a i c ∧ s4 = .int .i64 ((i : Int) + 1) ∧ i ≤ n ∧ n - i ≤ gg ∧ Hid (RowF 47 4 wr (.slice a i c) i (recS T)) ∧ Hid (∀ k, (Value.slice a i c).ownBlock = some k → W.heap.size ≤ k) ∧ Hid (Below W.heap.size W wr))
  case atStart => exact ⟨0, none, 0, rfl, by simp, Nat.zero_le _, by omega, HR, Lib.hid (fun k hk => by simp [Value.ownBlock] at hk), HB⟩
  case round =>
    obtain ⟨i, a, c, rfl, rfl, hin, hgg, HR2, HO2, HB2⟩ := hrel
    clear HR HB
    have hlen := len_is wr t T F (HI.out.below HB2.out).tab
    rw [HN.out] at hlen
    have HLEN := Lib.hid hlen
    unfold ptrV at HLEN
    clear hlen
    by_cases hlt : i < n
    · have hltz : (i : Int) + 1 ≤ (n : Int) := by omega
      have hi6 : I64 ((i : Int) + 1) := by unfold I64; omega
      go_wp2_with fail
      refine HLEN.out.mono ?_
      rintro e w1 ⟨rfl, hb1⟩
      have B1 := Lib.hid (below_tr HB2.out hb1)
      have R1 := Lib.hid (HR2.out.below hb1)
      have C1 := Lib.hid (st_is w1 t T F ((i : Int) + 1) hi6 (HI.out.below B1.out).tab)
      unfold ptrV at C1
      clear HB2 HR2 HLEN hb1
      go_wp2_with fail
      refine C1.out.mono ?_
      rintro e w2 ⟨rfl, hb2⟩
      have B2 := Lib.hid (below_tr B1.out hb2)
      have R2 := Lib.hid (R1.out.below hb2)
      have C2 := Lib.hid (top_is w2 t T F ((i : Int) + 1) hi6 (HI.out.below B2.out).tab)
      unfold ptrV at C2
      clear B1 R1 C1 hb2
      go_wp2_with fail
      refine C2.out.mono ?_
      rintro e w3 ⟨rfl, hb3⟩
      have B3 := Lib.hid (below_tr B2.out hb3)
      have R3 := Lib.hid (R2.out.below hb3)
      have C3 := Lib.hid (number_is w3 t T F ((i : Int) + 1) hi6 (by rw [HN.out]; omega) (HI.out.below B3.out))
      unfold ptrV at C3
      clear B2 R2 C2 hb3
      go_wp2_with fail
      refine C3.out.mono ?_
      rintro e w4 ⟨rfl, hb4⟩
      have B4 := Lib.hid (below_tr B3.out hb4)
      have R4 := Lib.hid (R3.out.below hb4)
      have C4 := Lib.hid (counts_is w4 t T F ((i : Int) + 1) hi6 (HI.out.below B4.out).tab _ rfl)
      unfold ptrV at C4
      clear B3 R3 C3 hb4
      go_wp2_with fail
      refine C4.out.mono ?_
      rintro e w5 ⟨rfl, hb5⟩
      have B5 := Lib.hid (below_tr B4.out hb5)
      have R5 := Lib.hid (R4.out.below hb5)
      obtain ⟨a', c', w6, hrun, hrow, hon, hb6⟩ := seen_push (n1 := W.heap.size) R5.out B5.out.size HO2.out (by omega) _ _ _ _ rfl
      have HRUN := Lib.hid (hrun 44)
      have HROW := Lib.hid hrow
      have HON := Lib.hid hon
      have B6 := Lib.hid (B5.out.trans hb6)
      clear B4 R4 C4 hb5 hrun hrow hon hb6 R5 B5 HO2
      go_wp2_with (at_builtin; refine append_stepW rfl _ _ 44 rfl _ _ _ _ rfl rfl HRUN.out ?_)
      go_roundg (n - (i + 1))
      case measure => omega
      case rel => exact ⟨i + 1, a', c', rfl, by go_num, by omega, Nat.le_refl _, HROW, HON, B6⟩
    · obtain rfl : i = n := by omega
      have hltz : ¬ ((i : Int) + 1 ≤ (i : Int)) := by omega
      go_wp2_with fail
      refine HLEN.out.mono ?_
      rintro e w1 ⟨rfl, hb1⟩
      have B1 := Lib.hid (below_tr HB2.out hb1)
      have R1 := Lib.hid (HR2.out.below hb1)
      clear HB2 HR2 HLEN hb1
      go_wp2_with fail
      go_ret
      exact ⟨_, _, rfl, ⟨R1.out, HO2.out⟩, B1.out⟩

end Go.Proofs.Ytebkcejamleojaa
