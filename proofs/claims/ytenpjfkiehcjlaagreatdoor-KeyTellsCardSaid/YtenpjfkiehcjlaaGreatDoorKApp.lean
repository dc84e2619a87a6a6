/-
  One number, or one value, more behind a row of the call's own.
-/
import Derived.Test.YtenpjfkiehcjlaaGreatDoorKAwake
namespace Go.Proofs.YtenpjfkiehcjlaaGreatDoor
open Go.RowKit

theorem info_i : (Tryz.prog.info? 3).map (fun i => (i.zero, i.size, i.bytes)) = some (some (.int .i64 0), 1, 8) := by kernel_rfl

theorem own_nilI (W : World) (base : Nat) : W.ownsRow base 3 1 (.slice none 0 0) ([] : List Int).length (([] : List Int).map (Value.int .i64)) := ⟨rfl, .inl ⟨rfl, rfl⟩⟩
theorem own_nilV (W : World) (base : Nat) : W.ownsRow base 37 4 (.slice none 0 0) ([] : List Val).length (flatL []) := ⟨rfl, .inl ⟨rfl, rfl⟩⟩

theorem app_int {W : World} {base : Nat} {s : Value} {l : List Int} (hb : base ≤ W.heap.size) (ho : W.ownsRow base 3 1 s l.length (l.map (Value.int .i64))) (hlen : l.length ≤ 1000000) (y : Int) :
    ∃ s' W', (Builtin.append_ #[23, 23] 23 #[s, .slice (some ⟨W.heap.size, 0, none⟩) 1 1]).run Tryz.prog (W.alloc (.cells #[.int .i64 y] 3)) = .ok s' W' ∧ W'.ownsRow base 3 1 s' (l ++ [y]).length ((l ++ [y]).map (Value.int .i64)) ∧ Below base W W' := by
  obtain ⟨i0, hi, hz0, hz1, hz2⟩ := info_parts info_i
  obtain ⟨v', W4, hrun, o4, g34, _, _⟩ := run_append_own_at (P := Tryz.prog) (W.alloc (.cells #[.int .i64 y] 3)) base 23 23 3 i0 (.int .i64 0) 1 8 Tryz.underlying23 hi hz0 hz1 hz2 rfl (by decide) s l.length (l.map (Value.int .i64)) (ho.alloc _)
    ⟨W.heap.size, 0, none⟩ 1 1 [.int .i64 y] rfl
    (fun t u hu => by
      have ht : t < 1 := by have := (List.getElem?_eq_some_iff.1 hu).1; simpa using this
      obtain rfl : t = 0 := by omega
      simp at hu
      subst hu
      rw [Addr.add_lit]
      go_simp)
    (fun u hu => by simp at hu; subst hu; rfl)
    (by unfold maxLen; omega) (by omega) (by simp; omega)
  refine ⟨v', W4, hrun, ?_, (((Below.refl base W).alloc hb _).grown g34 (by simp; omega) (fun k e => (ho.lt k e).1))⟩
  rw [List.length_append, List.map_append]
  exact o4

theorem own_ints {W : World} {base n : Nat} {s : Value} {l : List Int} (hn : l.length = n) (hw : ∀ x ∈ l, I64 x) (h : W.ownsRow base 3 1 s n (l.map (Value.int .i64))) : ∃ a c, s = .slice a n c ∧ SlI W a c l := by
  rcases h.2 with ⟨h1, h2⟩ | ⟨g, cap, cur, rfl, hbg, hg, hnc, hcm, hcs, hxs⟩
  · subst h2
    obtain rfl : l = [] := List.length_eq_zero_iff.mp hn
    exact ⟨none, 0, h1, SlI.nil _ _ _ (by decide)⟩
  · refine ⟨_, cap, rfl, by omega, hcm, fun _ => ⟨g, 0, rfl, some_lt hg, fun i x hx => ?_⟩, hw⟩
    have hi : i < l.length := (List.getElem?_eq_some_iff.mp hx).1
    have : (l.map (Value.int .i64))[i]? = some (.int .i64 x) := by simp [hx]
    rw [← hxs, List.getElem?_take_of_lt (by omega)] at this
    rw [Nat.zero_add]
    simp [World.cell?, show W.heap[g]? = _ from hg]
    simpa using this

theorem app_val {W : World} {base : Nat} {s : Value} {l : List Val} (hb : base ≤ W.heap.size) (ho : W.ownsRow base 37 4 s l.length (flatL l)) (hw : ∀ x ∈ l, x.wf) (hlen : l.length ≤ 100000) (y : Val) (hy : y.wf) :
    ∃ s' W', (Builtin.append_ #[22, 22] 22 #[s, .slice (some ⟨W.heap.size, 0, none⟩) 1 1]).run Tryz.prog (W.alloc (.cells #[.int .u8 y.k, .int .i64 y.n, .int .i64 y.u, .string y.t] 37)) = .ok s' W' ∧ W'.ownsRow base 37 4 s' (l ++ [y]).length (flatL (l ++ [y])) ∧ Below base W W' := by
  obtain ⟨s1, W1, hr1, ho1, hb1, _, _⟩ := app_run (W := W.alloc (.cells #[.int .u8 y.k, .int .i64 y.n, .int .i64 y.u, .string y.t] 37)) (base := base) (l := l) (m := [y]) (by simp; omega) (ho.alloc _) (new1 W y hy) (by simp; omega) hw
  exact ⟨s1, W1, hr1, ho1, (((Below.refl base W).alloc hb _)).trans hb1⟩

theorem drop_rev {α : Type} {l : List α} {q : Nat} {y : α} (h : l[q]? = some y) : (l.drop q).reverse = (l.drop (q + 1)).reverse ++ [y] := by
  obtain ⟨h1, h2⟩ := List.getElem?_eq_some_iff.mp h
  rw [List.drop_eq_getElem_cons h1, h2, List.reverse_cons]

end Go.Proofs.YtenpjfkiehcjlaaGreatDoor
