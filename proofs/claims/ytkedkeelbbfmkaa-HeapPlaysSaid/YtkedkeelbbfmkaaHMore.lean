/-
  What is done step by step: one heap, and what of it counts (stage 11).
-/
import Derived.Test.YtkedkeelbbfmkaaHSteps
namespace Go.Proofs.Ytkedkeelbbfmkaa
open Go.RowKit
set_option linter.unusedVariables false

theorem one_do {X : Nat → Prop} {w0 w : World} {h z : Nat} {A : Ab} (H : One X w0 w h A z) (s : Stp) (ra : Option Addr) (rc n : Nat) (hn : s.t.row.length = n) (hl : n ≤ 1000000) (hw : s.wf) (hr : SlL w ra rc s.t.row) (hz : z ≤ 80000) :
    Calls Try.prog 28 #[stpV s (.slice ra n rc), .pointer (some ⟨h, 0, none⟩)] w fun e w' => e = .returned (.tuple #[.int .i64 (A.doV s), .int .i64 (A.doE s)]) ∧ One X w0 w' h (A.doA s) (z + 3) ∧ Stay X w w' := by
  obtain ⟨F, h1, h2, h3, h4⟩ := H
  refine (do_std w h A z F s ra rc n hn hl hw hr hz h1).mono ?_
  rintro e w' ⟨rfl, F', q1, q2, q3⟩
  exact ⟨rfl, One.of h2 h3 q1 q2 q3 h4⟩

/-! ### What is used -/

theorem pigeon : ∀ (m : Nat) (l : List Nat), (∀ j, j < m → j ∈ l) → m ≤ l.length
  | 0, _, _ => Nat.zero_le _
  | m + 1, l, h => by
    have h1 := h m (by omega)
    have h2 := pigeon m (l.erase m) fun j hj => (List.mem_erase_of_ne (by omega)).2 (h j (by omega))
    rw [List.length_erase_of_mem h1] at h2
    have := List.length_pos_of_mem h1
    omega
theorem leastN_le (l : List Nat) : leastN l ≤ l.length := pigeon _ l (leastN_is l).2
theorem used_len (A : Ab) : A.used.length = A.pl.length := by unfold Ab.used; rw [List.length_map]

theorem atB_used {A : Ab} {k : Nat} : A.atB (k : Int) = true ↔ k ∈ A.used := by
  unfold Ab.atB Ab.tupI
  rw [if_pos (by omega), Int.toNat_natCast]
  cases e : A.tup k with
  | none => have := tup_used.1 e; simp [this]
  | some t =>
    have : k ∈ A.used := Classical.byContradiction fun h => by rw [tup_used.2 h] at e; cases e
    simp [this]
theorem atB_neg {A : Ab} {x : Int} (h : x < 0) : A.atB x = false := by unfold Ab.atB Ab.tupI; rw [if_neg (by omega)]; rfl

theorem put_used (A : Ab) (t : Tup) : (A.put t).used = A.used ++ [A.slot] := by unfold Ab.used Ab.put; simp
theorem free_used {A : Ab} {i k : Nat} (h : k ∈ (A.free i).used) : k ∈ A.used := by
  obtain ⟨p, hp, rfl⟩ := List.mem_map.1 h
  exact List.mem_map.2 ⟨p, (List.mem_filter.1 hp).1, rfl⟩
theorem free_len (A : Ab) (i : Nat) : (A.free i).pl.length ≤ A.pl.length := List.length_filter_le _ _
theorem kill_len (A : Ab) (i : Nat) (x c : Int) : (A.kill i x c).pl.length = A.pl.length := by unfold Ab.kill; rw [List.length_map]
theorem nx_pl (A : Ab) (x : Int) : (A.nx x).pl = A.pl := by
  unfold Ab.nx Ab.nxt
  by_cases h : Most x
  · by_cases h2 : A.lst x = 2147483647
    · rw [if_pos h, if_pos h2]
    · rw [if_pos h, if_neg h2]
  · rw [if_neg h]

/-- What a step makes: one version more at most; whose slot is below their number. -/
theorem do_len (A : Ab) (s : Stp) : (A.doA s).pl.length ≤ A.pl.length + 1 := by
  unfold Ab.doA
  split
  · unfold Ab.pt
    split
    · show (A.pl ++ [_]).length ≤ _
      simp
    · omega
  · split
    · unfold Ab.kl
      split
      · omega
      · rw [kill_len]; omega
    · split
      · unfold Ab.fe
        split
        · omega
        · have := free_len A s.slot.toNat; omega
      · rw [nx_pl]; omega
theorem do_used {A : Ab} {s : Stp} {k : Nat} (h : k ∈ (A.doA s).used) : k ∈ A.used ∨ k < (A.doA s).pl.length := by
  unfold Ab.doA at h ⊢
  split at h
  · rename_i h0
    rw [if_pos h0]
    unfold Ab.pt at h ⊢
    split at h
    · rename_i h1
      rw [if_pos h1]
      rw [put_used] at h
      rcases List.mem_append.1 h with h | h
      · exact .inl h
      · right
        rw [List.mem_singleton.1 h]
        have := leastN_le A.used
        rw [used_len] at this
        show leastN A.used < (A.pl ++ [_]).length
        simp
        omega
    · exact .inl h
  · split at h
    · unfold Ab.kl at h
      split at h
      · exact .inl h
      · rw [kill_used] at h; exact .inl h
    · split at h
      · unfold Ab.fe at h
        split at h
        · exact .inl h
        · exact .inl (free_used h)
      · have : (A.nx s.a).used = A.used := by unfold Ab.used; rw [nx_pl]
        rw [this] at h; exact .inl h

/-- How many slots below k are used. -/
def cntU (l : List Nat) (k : Int) : Nat := (l.filter fun s : Nat => decide ((s : Int) < k)).length
theorem cntU_lo (l : List Nat) {k : Int} (h : k ≤ 0) : cntU l k = 0 := by
  unfold cntU
  rw [List.length_eq_zero_iff, List.filter_eq_nil_iff]
  intro s _
  simp only [decide_eq_true_eq]
  omega
theorem cntU_hi {l : List Nat} {k : Int} (h : ∀ s ∈ l, (s : Int) < k) : cntU l k = l.length := by
  unfold cntU
  rw [List.filter_eq_self.2 fun s hs => by simpa using h s hs]
theorem cntU_in : ∀ {l : List Nat}, l.Nodup → ∀ {k : Nat}, k ∈ l → cntU l ((k : Int) + 1) = cntU l k + 1
  | [], _, _, h => (by cases h)
  | a :: l, hn, k, h => by
    rw [List.nodup_cons] at hn
    unfold cntU
    by_cases e : a = k
    · subst e
      have h1 : (l.filter fun s : Nat => decide ((s : Int) < (a : Int) + 1)) = l.filter fun s : Nat => decide ((s : Int) < (a : Int)) := List.filter_congr fun s hs => by
        have : s ≠ a := fun e => hn.1 (e ▸ hs)
        rw [Bool.eq_iff_iff]; simp only [decide_eq_true_eq]; omega
      rw [List.filter_cons_of_pos (by simp only [decide_eq_true_eq]; omega), List.filter_cons_of_neg (by simp), h1]
      rfl
    · have ih := cntU_in hn.2 ((List.mem_cons.1 h).resolve_left (fun h => e h.symm))
      unfold cntU at ih
      by_cases h2 : a < k
      · rw [List.filter_cons_of_pos (by simp only [decide_eq_true_eq]; omega), List.filter_cons_of_pos (by simp only [decide_eq_true_eq]; omega), List.length_cons, List.length_cons, ih]
      · rw [List.filter_cons_of_neg (by simp only [decide_eq_true_eq]; omega), List.filter_cons_of_neg (by simp only [decide_eq_true_eq]; omega), ih]
theorem cntU_out {l : List Nat} {k : Int} (h : ∀ s ∈ l, (s : Int) ≠ k) : cntU l (k + 1) = cntU l k := by
  unfold cntU
  congr 1
  refine List.filter_congr fun s hs => ?_
  have := h s hs
  rw [Bool.eq_iff_iff]; simp only [decide_eq_true_eq]; omega
theorem cntU_le (l : List Nat) (k : Int) : cntU l k ≤ l.length := List.length_filter_le _ _

/-- A slot that is there. -/
theorem atB_is {A : Ab} {x : Int} (h : A.atB x = true) : ∃ k : Nat, x = (k : Int) ∧ k ∈ A.used := by
  by_cases hx : 0 ≤ x
  · obtain ⟨k, rfl⟩ := Int.eq_ofNat_of_zero_le hx
    exact ⟨k, rfl, atB_used.1 h⟩
  · rw [atB_neg (by omega)] at h; cases h
theorem atB_not {A : Ab} {x : Int} (h : A.atB x = false) : ∀ s ∈ A.used, (s : Int) ≠ x := by
  rintro s hs rfl
  rw [atB_used.2 hs] at h; cases h

/-- A step of a list lies where the list lies, later, too. -/
theorem step_at {w0 w : World} {a : Option Addr} {c n i : Nat} {l : List Stp} (hs : SlSt w0 a c l) (hb : Below w0.heap.size w0 w) (hn : l.length = n) (hi : i < n) :
    ∃ s b o ra rc rn, l[i]? = some s ∧ s ∈ l ∧ s.t.row.length = rn ∧ a = some ⟨b, o, none⟩ ∧ SlL w ra rc s.t.row ∧ s.wf ∧ b < w.heap.size ∧
      w.cell? ⟨b, o + i * 11, none⟩ = some (.int .u8 s.kind) ∧ w.cell? ⟨b, o + i * 11 + 1, none⟩ = some (.int .i64 s.t.no) ∧ w.cell? ⟨b, o + i * 11 + 2, none⟩ = some (.int .i64 s.t.id) ∧ w.cell? ⟨b, o + i * 11 + 3, none⟩ = some (.int .i64 s.t.mn) ∧ w.cell? ⟨b, o + i * 11 + 4, none⟩ = some (.int .i64 s.t.cm) ∧ w.cell? ⟨b, o + i * 11 + 5, none⟩ = some (.int .i64 s.t.mx) ∧ w.cell? ⟨b, o + i * 11 + 6, none⟩ = some (.int .i64 s.t.cx) ∧ w.cell? ⟨b, o + i * 11 + 7, none⟩ = some (.slice ra rn rc) ∧ w.cell? ⟨b, o + i * 11 + 8, none⟩ = some (.int .i64 s.slot) ∧ w.cell? ⟨b, o + i * 11 + 9, none⟩ = some (.int .i64 s.a) ∧ w.cell? ⟨b, o + i * 11 + 10, none⟩ = some (.int .i64 s.b) := by
  subst hn
  have h1 : l[i]? = some l[i] := List.getElem?_eq_getElem hi
  obtain ⟨b, o, rfl, hat⟩ := hs.get h1
  obtain ⟨ra, rc, h2, h3, h4⟩ := hat.below hb
  exact ⟨l[i], b, o, ra, rc, _, h1, List.getElem_mem hi, rfl, rfl, h2, hs.wf _ (List.getElem_mem hi), h3, h4 0 _ rfl, h4 1 _ rfl, h4 2 _ rfl, h4 3 _ rfl, h4 4 _ rfl, h4 5 _ rfl, h4 6 _ rfl, h4 7 _ rfl, h4 8 _ rfl, h4 9 _ rfl, h4 10 _ rfl⟩

end Go.Proofs.Ytkedkeelbbfmkaa
