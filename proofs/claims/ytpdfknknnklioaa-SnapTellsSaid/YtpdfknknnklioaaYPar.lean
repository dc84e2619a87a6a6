/-
  Whose parents all are, kept in a list beside the table (stage 9).
-/
import Derived.Test.YtpdfknknnklioaaYLaw
namespace Go.Proofs.Ytpdfknknnklioaa
open Go.RowKit
set_option linter.unusedVariables false

def parR (T : Tb) (j : Nat) : List Value := [.int .i64 (if j = 0 then 0 else (T.par j : Int))]

/-- What a step does to the parents. -/
theorem stp_par (T : Tb) (kind id : Int) : (kind = 0 ∧ T.stpE kind id = 0 ∧ (T.stp kind id).n = T.n + 1 ∧ ((id.toNat : Nat) : Int) = id ∧ (∀ k, k ≤ T.n → (T.stp kind id).par k = T.par k) ∧ (T.stp kind id).par (T.n + 1) = id.toNat) ∨
    (¬ (kind = 0 ∧ T.stpE kind id = 0) ∧ (T.stp kind id).n = T.n ∧ (T.stp kind id).par = T.par) := by
  by_cases h0 : kind = 0
  · subst h0
    obtain ⟨e1, e2, e3⟩ := begT_eq T id
    rw [e1, e3]
    by_cases he : T.begE id = 0
    · refine .inl ⟨rfl, he, ?_⟩
      have hid : ((id.toNat : Nat) : Int) = id := by
        rcases Tb.begE_ok he with rfl | ⟨h1, _⟩
        · rfl
        · omega
      unfold Tb.begT
      rw [if_pos he]
      exact ⟨rfl, hid, fun k hk => upd_ne _ _ _ (by omega), upd_same _ _ _⟩
    · refine .inr ⟨fun h => he h.2, ?_⟩
      unfold Tb.begT
      rw [if_neg he]
      exact ⟨rfl, rfl⟩
  · refine .inr ⟨fun h => h0 h.1, ?_⟩
    by_cases h1 : kind = 1
    · rw [(comT_eq T kind id h0 h1).1]
      unfold Tb.comT
      split
      · exact ⟨T.com_n _, T.com_par _⟩
      · exact ⟨rfl, rfl⟩
    · rw [(aboT_eq T kind id h0 h1).1]
      unfold Tb.aboT
      split
      · exact ⟨rfl, rfl⟩
      · exact ⟨rfl, rfl⟩

/-- A table, and beside it a list of all parents of P. -/
structure Two (w0 W : World) (t : Nat) (T : Tb) (F : Nat → Prop) (P : Tb) (b c : Nat) : Prop where
  one : One w0 W t T F
  row : RowF 3 1 W (.slice (some ⟨b, 0, none⟩) (P.n + 1) c) (P.n + 1) (parR P)
  nb : ¬ F b
  fb : w0.heap.size ≤ b

section
variable {w0 W W' : World} {t : Nat} {T P : Tb} {F : Nat → Prop} {b c : Nat}

theorem Two.below (h : Two w0 W t T F P b c) (hb : Below W.heap.size W W') : Two w0 W' t T F P b c := ⟨h.one.below hb, h.row.below hb, h.nb, h.fb⟩
theorem Two.lt (h : Two w0 W t T F P b c) : b < W.heap.size := h.row.lt b rfl

theorem Two.start (h : One w0 W t Tb.new F) : Two w0 (W.alloc (.cells #[.int .i64 0] 3)) t Tb.new F Tb.new W.heap.size 1 := by
  have hl := World.ownsRow_lit (base := 0) (e := 3) (size := 1) W #[.int .i64 0] 1 (Nat.zero_le _) (by decide) (by simp)
  refine ⟨h.below (Below.allocs _ _), ⟨⟨_, hl, fun j hj o v hv => ?_⟩, fun _ _ => rfl⟩, fun hx => by have := h.is.lt _ hx; omega, h.bel.size⟩
  have hj0 : j = 0 := by have : j < 0 + 1 := hj; omega
  subst hj0
  match o, hv with
  | 0, hv => simpa [parR] using hv
  | o + 1, hv => simp [parR] at hv

/-- A step that begins none leaves the list as it is. -/
theorem Two.same (h : Two w0 W t T F P b c) (hn : T.n = P.n) (hp : T.par = P.par) : Two w0 W t T F T b c := by
  refine ⟨h.one, ?_, h.nb, h.fb⟩
  rw [hn]
  exact h.row.congr fun j _ => by unfold parR; rw [hp]

/-- Behind a step. -/
theorem Two.step {T' : Tb} {v : Value} {e : Ending} (h : Two w0 W t T F P b c) (hn : Next w0 W t F T' v e W') : ∃ F', e = .returned v ∧ Two w0 W' t T' F' P b c := by
  obtain ⟨F', he, h1, h2, h3⟩ := hn
  have hlt := h.lt
  exact ⟨F', he, h1, h.row.stay (h2.stay (G := fun k => k = b) (fun k hk hx => h.nb (by rw [← hk]; exact hx))) (fun k hk => by simp [Value.ownBlock] at hk; exact hk.symm), fun hx => (h3 b hx).elim h.nb (fun h => by omega), h.fb⟩

/-- One parent more, by append of a literal. -/
theorem Two.push (h : Two w0 W t T F P b c) (hs : P.n ≤ 100000) (hn : T.n = P.n + 1) (hp : ∀ k, k ≤ P.n → T.par k = P.par k) {id : Int} (hid : (T.par (P.n + 1) : Int) = id) :
    ∃ b' c' W', (∀ ty, (Builtin.append_ #[72, 72] ty #[.slice (some ⟨b, 0, none⟩) (P.n + 1) c, .slice (some ⟨W.heap.size, 0, none⟩) 1 1]).run Try.prog (W.alloc (.cells #[.int .i64 id] 3)) = .ok (.slice (some ⟨b', 0, none⟩) (T.n + 1) c') W') ∧ Two w0 W' t T F T b' c' ∧ w0.heap.size ≤ W'.heap.size := by
  obtain ⟨i0, hi, hz, hsz, hby⟩ := info_parts info_int
  have hal := Below.allocs W (.cells #[.int .i64 id] 3)
  have hlit := Lit.new W 3 [.int .i64 id]
  obtain ⟨s', W', hrun, hrow, hg, hown⟩ := (h.row.below hal).append (P := Try.prog) 72 72 i0 _ 8 Try.underlying72 hi hz hsz hby rfl (by decide) (by decide) (b := W.heap.size) (k := 1) (c := 1) (q := fun _ => [.int .i64 id])
    (fun j hj o v hv => by
      obtain rfl : j = 0 := by omega
      rw [Nat.zero_mul, Nat.zero_add]
      exact hlit.cell hv) (fun _ _ => rfl) (fun _ _ v hv => by simp at hv; subst hv; rfl) (by omega)
  obtain ⟨b', c', e, _⟩ := hrow.at (j := P.n + 1) (by omega)
  subst e
  have hlt := h.lt
  have ht : Touch (fun k => k = b) W W' := (Touch.of_below hal).trans (Touch.grown (F := fun k => k = b) hg (fun k hk => by simp [Value.ownBlock] at hk; exact hk.symm)) (fun _ _ h => h)
  have hb' : b' = b ∨ W.heap.size ≤ b' := by
    rcases hown with e | e
    · simp [Value.ownBlock] at e; exact .inl e
    · simp [Value.ownBlock] at e
      exact .inr (by omega)
  refine ⟨b', c', W', fun ty => by rw [hn]; exact hrun, ⟨⟨h.one.is.stay (ht.stay (G := F) (fun k hk hx => h.nb (by rw [← hx]; exact hk))), h.one.far, ?_⟩, ?_, fun hx => ?_, ?_⟩, ?_⟩
  · exact (h.one.bel.trans (hal.mono h.one.bel.size)).trans ((Below.refl _ _).grown hg (Nat.le_trans h.one.bel.size hal.size) (fun k hk => by
      simp [Value.ownBlock] at hk
      rw [← hk]
      exact h.fb))
  · rw [hn]
    refine hrow.congr fun j hj => ?_
    unfold parR
    by_cases hjn : j < P.n + 1
    · rw [if_pos hjn]
      by_cases hj0 : j = 0
      · rw [if_pos hj0, if_pos hj0]
      · rw [if_neg hj0, if_neg hj0, hp j (by omega)]
    · obtain rfl : j = P.n + 1 := by omega
      rw [if_neg hjn, if_neg (by omega), hid]
  · rcases hb' with rfl | hb'
    · exact h.nb hx
    · have := h.one.is.lt b' hx; omega
  · rcases hb' with rfl | hb'
    · exact h.fb
    · exact Nat.le_trans h.one.bel.size hb'
  · exact Nat.le_trans h.one.bel.size ht.size
end

end Go.Proofs.Ytpdfknknnklioaa
