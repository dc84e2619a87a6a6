/-
  One more of a mode for somebody, as lists; three appends one behind the other (stage 14).
-/
import Derived.Test.YtjjhmfpdbjflmaaPRwo
namespace Go.Proofs.Ytjjhmfpdbjflmaa
open Go.RowKit
set_option linter.unusedVariables false

theorem or_with {h m : Int} (hh : U16 h) (hm : U8 m) (h15 : m < 16) : bits .or .u16 h (withN 0 m) = withN h m := by
  have := with_or h m hh hm
  rw [show min m.toNat 16 = m.toNat by omega, bit_with m hm h15] at this
  exact this

theorem giveL_pre {x m : Int} {post : PL} : ∀ {pre : PL}, (∀ p ∈ pre, p.1 < x) → giveL (pre ++ post) x m = pre ++ giveL post x m
  | [], _ => rfl
  | p :: pre, h => by
    rw [List.cons_append, List.cons_append, ← giveL_pre (fun z hz => h z (List.mem_cons_of_mem _ hz))]
    have hp := h p List.mem_cons_self
    show (if p.1 = x then (x, withN p.2 m) :: (pre ++ post) else if x < p.1 then (x, withN 0 m) :: p :: (pre ++ post) else p :: giveL (pre ++ post) x m) = _
    rw [if_neg (by omega), if_neg (by omega)]
theorem take_mem {l : PL} {i : Nat} {p : Int × Int} (h : p ∈ l.take i) : ∃ j : Nat, j < i ∧ l[j]? = some p := by
  obtain ⟨j, hj⟩ := List.getElem?_of_mem h
  rw [List.getElem?_take] at hj
  split at hj
  · exact ⟨j, by assumption, hj⟩
  · cases hj
theorem giveL_set {l : PL} {x m h : Int} {i : Nat} (hr : RiseL (fsts l)) (hi : l[i]? = some (x, h)) : giveL l x m = l.set i (x, withN h m) := by
  obtain ⟨h1, h2⟩ := List.getElem?_eq_some_iff.1 hi
  have hp : ∀ p ∈ l.take i, p.1 < x := fun p hp => by
    obtain ⟨j, hj, hjp⟩ := take_mem hp
    obtain ⟨e1, e2⟩ := List.getElem?_eq_some_iff.1 hjp
    have := List.pairwise_iff_getElem.1 hr j i (by rw [fsts_len]; exact e1) (by rw [fsts_len]; exact h1) hj
    simp only [fsts, List.getElem_map, e2, h2] at this
    exact this
  have e : l = l.take i ++ (x, h) :: l.drop (i + 1) := by rw [← h2, ← List.drop_eq_getElem_cons h1, List.take_append_drop]
  conv => lhs; rw [e, giveL_pre hp]
  rw [List.set_eq_take_append_cons_drop, if_pos h1]
  simp [giveL]
theorem giveL_mid {l : PL} {x m : Int} {i : Nat} (h : ∀ j : Nat, j < i → ∀ p, l[j]? = some p → p.1 < x) (hi : ∀ p, l[i]? = some p → x < p.1) : giveL l x m = (l.take i ++ [(x, withN 0 m)]) ++ l.drop i := by
  have hp : ∀ p ∈ l.take i, p.1 < x := fun p hp => by
    obtain ⟨j, hj, hjp⟩ := take_mem hp
    exact h j hj p hjp
  conv => lhs; rw [← List.take_append_drop i l]
  rw [giveL_pre hp]
  cases hd : l.drop i with
  | nil => simp [giveL]
  | cons p r =>
    have : l[i]? = some p := by
      have := congrArg (fun l => l[0]?) hd
      simpa using this
    have := hi p this
    unfold giveL
    rw [if_neg (by omega), if_pos this, List.append_assoc]
    rfl

theorem RowO.cut {kk : Bool} {W : World} {b n c k : Nat} {l : PL} (h : RowO kk W (.slice (some ⟨b, 0, none⟩) n c) l) (hk : k ≤ n) : RowO kk W (.slice (some ⟨b, 0, none⟩) k c) (l.take k) := by
  have hn := h.cap.2.2
  subst hn
  have hcut := row_cut (k := k) (show RowF 71 3 W (.slice (some ⟨b, 0, none⟩) l.length c) l.length (fun j => eO kk (l.getD j (0, 0))) from h) hk
  have e : (l.take k).length = k := by rw [List.length_take]; omega
  unfold RowO
  rw [e]
  exact RowF.congr hcut fun j hj => by simp [hj]
/-- The cells of a row, from a place on. -/
theorem RowO.cells {kk : Bool} {W : World} {b n c : Nat} {l : PL} (h : RowO kk W (.slice (some ⟨b, 0, none⟩) n c) l) (i : Nat) : ∀ (j : Nat) p, (l.drop i)[j]? = some p → ∀ o v, (eO kk p)[o]? = some v → W.cell? ⟨b, i * 3 + (j * 3 + o), none⟩ = some v := by
  intro j p hp o v hv
  rw [List.getElem?_drop] at hp
  obtain ⟨hbl, q0, q1, q2, -⟩ := h.cell hp
  have e : i * 3 + (j * 3 + o) = (i + j) * 3 + o := by omega
  rw [e]
  match o, hv with
  | 0, hv => simp [eO] at hv; rw [← hv]; exact q0
  | 1, hv => simp [eO] at hv; rw [← hv]; exact q1
  | 2, hv => simp [eO] at hv; rw [← hv]; exact q2
theorem lit_rowO (kk : Bool) (W : World) : RowO kk (W.alloc (.cells #[] 71)) (.slice (some ⟨W.heap.size, 0, none⟩) 0 0) [] := by
  have := World.ownsRow_lit (e := 71) (size := 3) (base := 0) W #[] 0 (Nat.zero_le _) (Nat.zero_le _) (by simp)
  exact ⟨⟨[], by simpa using this, fun j hj => absurd hj (Nat.not_lt_zero j)⟩, fun j hj => absurd hj (Nat.not_lt_zero j)⟩

/-- The beginning of a row, one more, its rest: three appends. -/
theorem give_build {W : World} {b n c i off : Nat} {l : PL} (h : RowO true W (.slice (some ⟨b, 0, none⟩) n c) l) (hin : i ≤ n) (hn : n ≤ 500000) (x u : Int) (hoff : i < n → off = i * 3) :
    ∃ a1 c1 W2, (∀ ty, (Builtin.append_ #[59, 59] ty #[.slice (some ⟨W.heap.size, 0, none⟩) 0 0, .slice (some ⟨b, 0, none⟩) i c]).run Try.prog (W.alloc (.cells #[] 71)) = .ok (.slice a1 i c1) W2) ∧ Below W.heap.size W W2 ∧
      ∀ W2', Below W2.heap.size W2 W2' → ∃ a2 c2 W4 a3 c3 W6, (∀ ty, (Builtin.append_ #[59, 59] ty #[.slice a1 i c1, .slice (some ⟨W2'.heap.size, 0, none⟩) 1 1]).run Try.prog (W2'.alloc (.cells #[.int .i64 x, .int .u16 u, .int .u8 0] 71)) = .ok (.slice a2 (i + 1) c2) W4) ∧ Below W.heap.size W W4 ∧
        (∀ ty, (Builtin.append_ #[59, 59] ty #[.slice a2 (i + 1) c2, .slice (some ⟨b, off, none⟩) (n - i) (c - i)]).run Try.prog W4 = .ok (.slice a3 (n + 1) c3) W6) ∧
        RowO true W6 (.slice a3 (n + 1) c3) ((l.take i ++ [(x, u)]) ++ l.drop i) ∧ (∀ k, Value.ownBlock (.slice a3 (n + 1) c3) = some k → W.heap.size ≤ k) ∧ Below W.heap.size W W6 := by
  have hln := h.cap.2.2
  have hb1 := Below.allocs W (.cells #[] 71)
  have h0 := lit_rowO true W
  have e1 : (l.take i).length = i := by rw [List.length_take]; omega
  have hcut := RowO.cut (h.below hb1) hin
  obtain ⟨a1, c1, W2, r1, q1, t1, o1⟩ := row_appO h0 (b := b) (off := 0) (c := c) (l.take i) e1 (fun j p hp o v hv => by
    have := hcut.cells 0 j p (by simpa using hp) o v hv
    simpa using this) (by simp; omega)
  simp only [List.length_nil, Nat.zero_add, List.nil_append] at r1 q1 o1
  have hs1 : W.heap.size ≤ (W.alloc (.cells #[] 71)).heap.size := hb1.size
  have hb2 : Below W.heap.size W W2 := hb1.trans (t1.below (fun j hj => by have e : W.heap.size = j := Option.some.inj hj; omega) hs1)
  have hown1 : ∀ j, Value.ownBlock (.slice a1 i c1) = some j → W.heap.size ≤ j := fun j hj => by
    rcases o1 j hj with e | e
    · have e : W.heap.size = j := Option.some.inj e
      omega
    · omega
  refine ⟨a1, c1, W2, r1, hb2, fun W2' hb2' => ?_⟩
  have hb3 : Below W.heap.size W W2' := below_tr hb2 hb2'
  obtain ⟨a2, c2, W4, r2, q2, t2, o2⟩ := rowO_push (q1.below hb2') (x, u) x u 0 (by simp [eO]) (by rw [e1]; omega)
  rw [e1] at r2 q2 o2
  have hb4 : Below W.heap.size W W4 := hb3.trans (t2.below (fun j hj => hown1 j hj) hb3.size)
  have hown2 : ∀ j, Value.ownBlock (.slice a2 (i + 1) c2) = some j → W.heap.size ≤ j := fun j hj => by
    rcases o2 j hj with e | e
    · exact hown1 j e
    · have := hb3.size; omega
  have e2 : (l.take i ++ [(x, u)]).length = i + 1 := by rw [List.length_append, e1]; rfl
  obtain ⟨a3, c3, W6, r3, q3, t3, o3⟩ := row_appO (b := b) (off := off) (c := c - i) q2 (l.drop i) (k := n - i) (by rw [List.length_drop]; omega) (fun j p hp o v hv => by
    have hlt : i < n := by
      have := (List.getElem?_eq_some_iff.1 hp).1
      rw [List.length_drop] at this
      omega
    rw [hoff hlt]
    exact (h.below hb4).cells i j p hp o v hv) (by rw [e2]; omega)
  rw [e2, show i + 1 + (n - i) = n + 1 by omega] at r3 q3 o3
  refine ⟨a2, c2, W4, a3, c3, W6, r2, hb4, r3, q3, fun k hk => ?_, hb4.trans (t3.below (fun j hj => hown2 j hj) hb4.size)⟩
  rcases o3 k hk with e | e
  · exact hown2 k e
  · have := hb4.size; omega

end Go.Proofs.Ytjjhmfpdbjflmaa
