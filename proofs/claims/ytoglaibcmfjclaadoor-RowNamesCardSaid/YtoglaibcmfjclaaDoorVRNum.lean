/-
  What the document's own covenantref01.number answers, as a walk over this translation.
-/
import Derived.Test.YtoglaibcmfjclaaDoorVNumM
namespace Go.Proofs.YtoglaibcmfjclaaDoor
open Go.RowKit

theorem get_at (s : ByteArray) (j : Nat) (h : j < s.size) : s.data.toList[j]? = some s[j] := by
  have hl : j < s.data.toList.length := by simpa using h
  rw [List.getElem?_eq_getElem hl]
  rfl

theorem head_yes (s : ByteArray) (h : 0 < s.size) (p : s[0].toNat = 45) : s.data.toList.head? = some 45 := by
  rw [List.head?_eq_getElem?, get_at s 0 h]
  congr 1
  exact UInt8.toNat_inj.1 p

theorem head_no (s : ByteArray) (h : 0 < s.size) (p : ¬ s[0].toNat = 45) : ¬ s.data.toList.head? = some 45 := by
  rw [List.head?_eq_getElem?, get_at s 0 h]
  intro e
  apply p
  have e2 : s[0] = 45 := Option.some.inj e
  rw [e2]
  rfl

theorem acc_next (s : ByteArray) (j : Nat) (h1 : numStart s.data.toList ≤ j) (h2 : j < s.size) :
    numAcc s.data.toList (j + 1) = wrap64 (wrap64 (numAcc s.data.toList j * 10) - ((s[j].toNat : Int) - 48)) := by
  rw [← IntWalk.i64_left, ← IntWalk.i64_left]
  exact numAcc_next s.data.toList j h1 (by simpa using h2)

theorem noNum_here {s : List UInt8} {m : Nat} (h : ∀ m', m < m' → m' ≤ s.length → m' ≤ 20 → NoNum s m') (hn : NoNum s m) : ∀ m', m - 1 < m' → m' ≤ s.length → m' ≤ 20 → NoNum s m' := by
  intro m' h1 h2 h3
  by_cases e : m' = m
  · exact e ▸ hn
  · exact h m' (by omega) h2 h3

set_option maxRecDepth 100000 in
set_option maxHeartbeats 8000000 in
theorem rnumber_any (s : ByteArray) (hz : s.size ≤ 140737488351232) (w : World) :
    Calls Tryd.prog 53 #[.string s] w fun e w' => (∃ v, ∃ m : Nat, NumR s.data.toList v m ∧ e = .returned (.tuple #[.int .i64 v, .int .i64 m])) ∧ Below w.heap.size w w' := by
  have L0 := Lib.hid (show s.data.toList.length = s.size by simp)
  go_enter Tryd.func53, Tryd.ntmps53
  go_wp2_with fail
  go_loopw [4] (fun c wr => ∃ m : Nat, m ≤ s.size ∧ m ≤ 20 ∧ c = .int .i64 m ∧ (∀ m', m < m' → m' ≤ s.data.toList.length → m' ≤ 20 → NoNum s.data.toList m') ∧ Below w.heap.size w wr) (fun c _ => (intOf c).toNat)
  case atStart => exact ⟨min s.size 20, by omega, by omega, by congr 1; omega, fun m' h1 h2 h3 => by rw [L0.out] at h2; omega, Below.refl _ _⟩
  case round =>
    obtain ⟨m, h1, h2, rfl, hno, hbr⟩ := hrel
    have HNO := Lib.hid hno
    clear hno
    by_cases g : 0 < m
    · have g1 : (0 : Int) < (m : Int) := by omega
      have g2 : 0 < s.size := by omega
      have g3 : (0 : Int) < (s.size : Int) := by omega
      by_cases p : s[0].toNat = 45
      · have p' : ((s[0].toNat : Int) == 45) = true := by rw [p]; rfl
        have HH := Lib.hid (head_yes s g2 p)
        have HS := Lib.hid (show numStart s.data.toList = 1 by unfold numStart; rw [if_pos HH.out])
        go_wp2_with fail
        go_loopw [5, 7] (fun v c wi => ∃ j : Nat, 1 ≤ j ∧ j ≤ m ∧ v = .int .i64 (numAcc s.data.toList j) ∧ c = .int .i64 j ∧ Below wr.heap.size wr wi) (fun _ c _ => m - (intOf c).toNat)
        case atStart => exact ⟨1, by omega, by omega, by rw [← HS.out, numAcc_start], rfl, Below.refl _ _⟩
        case round =>
          obtain ⟨j, j1, j2, rfl, rfl, hbi0⟩ := hrel
          have hbi := below_tr hbr hbi0
          obtain ⟨A, hA⟩ : ∃ A, numAcc s.data.toList j = A := ⟨_, rfl⟩
          have hA1 : I64 A := hA ▸ wrap_I64 _
          unfold I64 at hA1
          rw [hA]
          by_cases gj : j < m
          · have gj1 : (j : Int) < (m : Int) := by omega
            have gj2 : j < s.size := by omega
            have gj3 : (j : Int) < (s.size : Int) := by omega
            have gj4 : ((j : Int) == (m : Int)) = false := by rw [beq_eq_false_iff_ne]; omega
            have HG := Lib.hid (get_at s j gj2)
            by_cases d1 : 48 ≤ s[j].toNat
            · by_cases d2 : s[j].toNat ≤ 57
              · have HN := Lib.hid (acc_next s j (HS.out ▸ j1) gj2)
                have hA2 := Lib.hid hA
                clear hA
                go_wp2_with fail
                go_roundw
                case rel => exact ⟨j + 1, by omega, by omega, by rw [HN.out, hA2.out], by go_num, hbi0⟩
                case measure => simp [intOf]; omega
              · have d2' : ¬ ((s[j].toNat : Int) ≤ 57) := by omega
                have NO := Lib.hid (noNum_here (m := m) HNO.out (fun u hu e => by
                  have := (numVal_is hu e).2.2 j (HS.out ▸ j1) gj _ HG.out
                  omega))
                go_wp2_with fail
                refine wp_region_plan (fun w w' => Below w.heap.size w w') [.it (.int .i64 (j : Int)), .it (.int .i64 (m : Int)), .it (.bool false), .it (.bool false), .it undef, .it undef, .it undef, .it undef, .it undef, .it undef, .it (.bool false)] (by kernel_rfl) (by kernel_rfl) (fun w => Below.refl _ _) (fun _ _ _ => below_tr) ?_
                refine seqP_value (fun w => Below.refl _ _) _ (by first | rfl | simp) (fun w' hw' hctx => ?_) ?_
                · go_simp
                  try first | with_reducible rfl | assumption | simp
                simp only [Act.put, List.setIfInBounds_toArray, List.set_cons_zero, List.set_cons_succ]
                refine seqP_value (fun w => Below.refl _ _) _ (by first | rfl | simp) (fun w' hw' hctx => ?_) ?_
                · go_simp
                  try first | with_reducible rfl | assumption | simp
                simp only [Act.put, List.setIfInBounds_toArray, List.set_cons_zero, List.set_cons_succ]
                refine seqP_value (fun w => Below.refl _ _) _ (by first | rfl | simp) (fun w' hw' hctx => ?_) ?_
                · go_simp
                  try first | with_reducible rfl | assumption | simp
                simp only [Act.put, List.setIfInBounds_toArray, List.set_cons_zero, List.set_cons_succ]
                refine seqP_value (fun w => Below.refl _ _) _ (by first | rfl | simp) (fun w' hw' hctx => ?_) ?_
                · go_simp
                  try first | with_reducible rfl | assumption | simp
                simp only [Act.put, List.setIfInBounds_toArray, List.set_cons_zero, List.set_cons_succ]
                refine seqP_skip (by first | rfl | simp) ?_
                simp only [Act.put, List.setIfInBounds_toArray, List.set_cons_zero, List.set_cons_succ]
                refine seqP_skip (by first | rfl | simp) ?_
                simp only [Act.put, List.setIfInBounds_toArray, List.set_cons_zero, List.set_cons_succ]
                refine seqP_skip (by first | rfl | simp) ?_
                simp only [Act.put, List.setIfInBounds_toArray, List.set_cons_zero, List.set_cons_succ]
                refine seqP_skip (by first | rfl | simp) ?_
                simp only [Act.put, List.setIfInBounds_toArray, List.set_cons_zero, List.set_cons_succ]
                refine seqP_skip (by first | rfl | simp) ?_
                simp only [Act.put, List.setIfInBounds_toArray, List.set_cons_zero, List.set_cons_succ]
                refine seqP_skip (by first | rfl | simp) ?_
                simp only [Act.put, List.setIfInBounds_toArray, List.set_cons_zero, List.set_cons_succ]
                refine seqP_value (fun w => Below.refl _ _) _ (by first | rfl | simp) (fun w' hw' hctx => ?_) ?_
                · go_simp
                  try first | with_reducible rfl | assumption | simp
                simp only [Act.put, List.setIfInBounds_toArray, List.set_cons_zero, List.set_cons_succ]
                refine seqP_nil fun w' hw' _ => ?_
                go_wp2_with fail
                go_roundw
                case rel => exact ⟨m - 1, by omega, by omega, by go_num, NO.out, below_tr hbi (below_tr (Below.refl _ _).drew hw')⟩
                case measure => simp [intOf]; omega
            · have d1' : ¬ ((48 : Int) ≤ (s[j].toNat : Int)) := by omega
              have NO := Lib.hid (noNum_here (m := m) HNO.out (fun u hu e => by
                have := (numVal_is hu e).2.2 j (HS.out ▸ j1) gj _ HG.out
                omega))
              go_wp2_with fail
              refine wp_region_plan (fun w w' => Below w.heap.size w w') [.it (.int .i64 (j : Int)), .it (.int .i64 (m : Int)), .it (.bool false), .it (.bool false), .it undef, .it undef, .it undef, .it undef, .it undef, .it undef, .it (.bool false)] (by kernel_rfl) (by kernel_rfl) (fun w => Below.refl _ _) (fun _ _ _ => below_tr) ?_
              refine seqP_value (fun w => Below.refl _ _) _ (by first | rfl | simp) (fun w' hw' hctx => ?_) ?_
              · go_simp
                try first | with_reducible rfl | assumption | simp
              simp only [Act.put, List.setIfInBounds_toArray, List.set_cons_zero, List.set_cons_succ]
              refine seqP_value (fun w => Below.refl _ _) _ (by first | rfl | simp) (fun w' hw' hctx => ?_) ?_
              · go_simp
                try first | with_reducible rfl | assumption | simp
              simp only [Act.put, List.setIfInBounds_toArray, List.set_cons_zero, List.set_cons_succ]
              refine seqP_value (fun w => Below.refl _ _) _ (by first | rfl | simp) (fun w' hw' hctx => ?_) ?_
              · go_simp
                try first | with_reducible rfl | assumption | simp
              simp only [Act.put, List.setIfInBounds_toArray, List.set_cons_zero, List.set_cons_succ]
              refine seqP_value (fun w => Below.refl _ _) _ (by first | rfl | simp) (fun w' hw' hctx => ?_) ?_
              · go_simp
                try first | with_reducible rfl | assumption | simp
              simp only [Act.put, List.setIfInBounds_toArray, List.set_cons_zero, List.set_cons_succ]
              refine seqP_skip (by first | rfl | simp) ?_
              simp only [Act.put, List.setIfInBounds_toArray, List.set_cons_zero, List.set_cons_succ]
              refine seqP_skip (by first | rfl | simp) ?_
              simp only [Act.put, List.setIfInBounds_toArray, List.set_cons_zero, List.set_cons_succ]
              refine seqP_skip (by first | rfl | simp) ?_
              simp only [Act.put, List.setIfInBounds_toArray, List.set_cons_zero, List.set_cons_succ]
              refine seqP_skip (by first | rfl | simp) ?_
              simp only [Act.put, List.setIfInBounds_toArray, List.set_cons_zero, List.set_cons_succ]
              refine seqP_skip (by first | rfl | simp) ?_
              simp only [Act.put, List.setIfInBounds_toArray, List.set_cons_zero, List.set_cons_succ]
              refine seqP_skip (by first | rfl | simp) ?_
              simp only [Act.put, List.setIfInBounds_toArray, List.set_cons_zero, List.set_cons_succ]
              refine seqP_value (fun w => Below.refl _ _) _ (by first | rfl | simp) (fun w' hw' hctx => ?_) ?_
              · go_simp
                try first | with_reducible rfl | assumption | simp
              simp only [Act.put, List.setIfInBounds_toArray, List.set_cons_zero, List.set_cons_succ]
              refine seqP_nil fun w' hw' _ => ?_
              go_wp2_with fail
              go_roundw
              case rel => exact ⟨m - 1, by omega, by omega, by go_num, NO.out, below_tr hbi (below_tr (Below.refl _ _).drew hw')⟩
              case measure => simp [intOf]; omega
          · obtain rfl : j = m := by omega
            have gj1 : ¬ (j : Int) < (j : Int) := by omega
            obtain ⟨V, hV⟩ : ∃ V, numVal s.data.toList j = V := ⟨_, rfl⟩
            have hV1 : I64 V := hV ▸ numVal_I64 _ _
            have hAV : V = A := by rw [← hV, ← hA]; unfold numVal; rw [if_pos HH.out]
            subst hAV
            have hV3 := hV1
            unfold I64 at hV3
            obtain ⟨x, hx⟩ : ∃ x, s.extract 0 j = x := ⟨_, rfl⟩
            obtain ⟨y, hy⟩ : ∃ y : ByteArray, ⟨(Lib.itoa V).toArray⟩ = y := ⟨_, rfl⟩
            have hxl : x.data.toList = s.data.toList.take j := by rw [← hx]; simp
            have HV := Lib.hid hV
            clear hV
            by_cases hyx : y = x
            · subst hyx
              have hfin : NumR s.data.toList V j := ⟨hV1, by rw [L0.out]; omega, h2, HNO.out, Or.inr ⟨g, by rw [← hxl, ← hy]⟩⟩
              have HF := Lib.hid hfin
              clear hfin
              go_wp2_with fail
              refine wp_region_plan (fun w w' => Below w.heap.size w w') [.it (.int .i64 (j : Int)), .it (.int .i64 (j : Int)), .it (.bool true), .it (.bool true), .it (.int .i64 (V : Int)), .it (.string y), .it (.string s), .it (.int .i64 (j : Int)), .it (.string y), .it (.bool true), .it (.bool true)] (by kernel_rfl) (by kernel_rfl) (fun w => Below.refl _ _) (fun _ _ _ => below_tr) ?_
              refine seqP_value (fun w => Below.refl _ _) _ (by first | rfl | simp) (fun w' hw' hctx => ?_) ?_
              · go_simp
                try first | with_reducible rfl | assumption | simp
              simp only [Act.put, List.setIfInBounds_toArray, List.set_cons_zero, List.set_cons_succ]
              refine seqP_value (fun w => Below.refl _ _) _ (by first | rfl | simp) (fun w' hw' hctx => ?_) ?_
              · go_simp
                try first | with_reducible rfl | assumption | simp
              simp only [Act.put, List.setIfInBounds_toArray, List.set_cons_zero, List.set_cons_succ]
              refine seqP_value (fun w => Below.refl _ _) _ (by first | rfl | simp) (fun w' hw' hctx => ?_) ?_
              · go_simp
                try first | with_reducible rfl | assumption | simp
              simp only [Act.put, List.setIfInBounds_toArray, List.set_cons_zero, List.set_cons_succ]
              refine seqP_value (fun w => Below.refl _ _) _ (by first | rfl | simp) (fun w' hw' hctx => ?_) ?_
              · go_simp
                try first | with_reducible rfl | assumption | simp
              simp only [Act.put, List.setIfInBounds_toArray, List.set_cons_zero, List.set_cons_succ]
              refine seqP_value (fun w => Below.refl _ _) _ (by first | rfl | simp) (fun w' hw' hctx => ?_) ?_
              · go_simp
                try first | with_reducible rfl | assumption | simp
              simp only [Act.put, List.setIfInBounds_toArray, List.set_cons_zero, List.set_cons_succ]
              refine seqP_call 49 #[.int .i64 V] (.string y) (by first | rfl | simp) (fun w' hw' hctx => ?_) (fun w' hw' hctx => (digits_any V hV1.1 hV1.2 w').mono fun _ _ hq => by rw [hy] at hq; exact hq) ?_
              · go_simp
              simp only [Act.put, List.setIfInBounds_toArray, List.set_cons_zero, List.set_cons_succ]
              refine seqP_value (fun w => Below.refl _ _) _ (by first | rfl | simp) (fun w' hw' hctx => ?_) ?_
              · go_simp
                try first | with_reducible rfl | assumption | simp
              simp only [Act.put, List.setIfInBounds_toArray, List.set_cons_zero, List.set_cons_succ]
              refine seqP_value (fun w => Below.refl _ _) _ (by first | rfl | simp) (fun w' hw' hctx => ?_) ?_
              · go_simp
                try first | with_reducible rfl | assumption | simp
              simp only [Act.put, List.setIfInBounds_toArray, List.set_cons_zero, List.set_cons_succ]
              refine seqP_value (fun w => Below.refl _ _) _ (by first | rfl | simp) (fun w' hw' hctx => ?_) ?_
              · go_simp
                try first | with_reducible rfl | assumption | simp
              simp only [Act.put, List.setIfInBounds_toArray, List.set_cons_zero, List.set_cons_succ]
              refine seqP_value (fun w => Below.refl _ _) _ (by first | rfl | simp) (fun w' hw' hctx => ?_) ?_
              · go_simp
                try first | with_reducible rfl | assumption | simp
              simp only [Act.put, List.setIfInBounds_toArray, List.set_cons_zero, List.set_cons_succ]
              refine seqP_value (fun w => Below.refl _ _) _ (by first | rfl | simp) (fun w' hw' hctx => ?_) ?_
              · go_simp
                try first | with_reducible rfl | assumption | simp
              simp only [Act.put, List.setIfInBounds_toArray, List.set_cons_zero, List.set_cons_succ]
              refine seqP_nil fun w' hw' _ => ?_
              go_wp2_with fail
              go_ret2
              exact ⟨⟨V, j, HF.out, rfl⟩, below_tr hbi (below_tr (Below.refl _ _).drew hw')⟩
            · have hyx' : ¬ y.toList = x.toList := fun e => hyx (Go.WideShapes.bytes_inj (by rw [← ByteArray.toList_eq, ← ByteArray.toList_eq]; exact e))
              have NO := Lib.hid (noNum_here (m := j) HNO.out (fun u hu e => by
                have := (numVal_is hu e).1
                rw [HV.out] at this
                apply hyx
                apply Go.WideShapes.bytes_inj
                rw [hxl, e, ← hy, this]))
              go_wp2_with fail
              refine wp_region_plan (fun w w' => Below w.heap.size w w') [.it (.int .i64 (j : Int)), .it (.int .i64 (j : Int)), .it (.bool true), .it (.bool true), .it (.int .i64 (V : Int)), .it (.string y), .it (.string s), .it (.int .i64 (j : Int)), .it (.string x), .it (.bool false), .it (.bool false)] (by kernel_rfl) (by kernel_rfl) (fun w => Below.refl _ _) (fun _ _ _ => below_tr) ?_
              refine seqP_value (fun w => Below.refl _ _) _ (by first | rfl | simp) (fun w' hw' hctx => ?_) ?_
              · go_simp
                try first | with_reducible rfl | assumption | simp
              simp only [Act.put, List.setIfInBounds_toArray, List.set_cons_zero, List.set_cons_succ]
              refine seqP_value (fun w => Below.refl _ _) _ (by first | rfl | simp) (fun w' hw' hctx => ?_) ?_
              · go_simp
                try first | with_reducible rfl | assumption | simp
              simp only [Act.put, List.setIfInBounds_toArray, List.set_cons_zero, List.set_cons_succ]
              refine seqP_value (fun w => Below.refl _ _) _ (by first | rfl | simp) (fun w' hw' hctx => ?_) ?_
              · go_simp
                try first | with_reducible rfl | assumption | simp
              simp only [Act.put, List.setIfInBounds_toArray, List.set_cons_zero, List.set_cons_succ]
              refine seqP_value (fun w => Below.refl _ _) _ (by first | rfl | simp) (fun w' hw' hctx => ?_) ?_
              · go_simp
                try first | with_reducible rfl | assumption | simp
              simp only [Act.put, List.setIfInBounds_toArray, List.set_cons_zero, List.set_cons_succ]
              refine seqP_value (fun w => Below.refl _ _) _ (by first | rfl | simp) (fun w' hw' hctx => ?_) ?_
              · go_simp
                try first | with_reducible rfl | assumption | simp
              simp only [Act.put, List.setIfInBounds_toArray, List.set_cons_zero, List.set_cons_succ]
              refine seqP_call 49 #[.int .i64 V] (.string y) (by first | rfl | simp) (fun w' hw' hctx => ?_) (fun w' hw' hctx => (digits_any V hV1.1 hV1.2 w').mono fun _ _ hq => by rw [hy] at hq; exact hq) ?_
              · go_simp
              simp only [Act.put, List.setIfInBounds_toArray, List.set_cons_zero, List.set_cons_succ]
              refine seqP_value (fun w => Below.refl _ _) _ (by first | rfl | simp) (fun w' hw' hctx => ?_) ?_
              · go_simp
                try first | with_reducible rfl | assumption | simp
              simp only [Act.put, List.setIfInBounds_toArray, List.set_cons_zero, List.set_cons_succ]
              refine seqP_value (fun w => Below.refl _ _) _ (by first | rfl | simp) (fun w' hw' hctx => ?_) ?_
              · go_simp
                try first | with_reducible rfl | assumption | simp
              simp only [Act.put, List.setIfInBounds_toArray, List.set_cons_zero, List.set_cons_succ]
              refine seqP_value (fun w => Below.refl _ _) _ (by first | rfl | simp) (fun w' hw' hctx => ?_) ?_
              · go_simp
                try first | with_reducible rfl | assumption | simp
              simp only [Act.put, List.setIfInBounds_toArray, List.set_cons_zero, List.set_cons_succ]
              refine seqP_value (fun w => Below.refl _ _) _ (by first | rfl | simp) (fun w' hw' hctx => ?_) ?_
              · go_simp
                try first | with_reducible rfl | assumption | simp
              simp only [Act.put, List.setIfInBounds_toArray, List.set_cons_zero, List.set_cons_succ]
              refine seqP_value (fun w => Below.refl _ _) _ (by first | rfl | simp) (fun w' hw' hctx => ?_) ?_
              · go_simp
                try first | with_reducible rfl | assumption | simp
              simp only [Act.put, List.setIfInBounds_toArray, List.set_cons_zero, List.set_cons_succ]
              refine seqP_nil fun w' hw' _ => ?_
              go_wp2_with fail
              go_roundw
              case rel => exact ⟨j - 1, by omega, by omega, by go_num, NO.out, below_tr hbi (below_tr (Below.refl _ _).drew hw')⟩
              case measure => simp [intOf]; omega
      · have p' : ((s[0].toNat : Int) == 45) = false := by rw [beq_eq_false_iff_ne]; omega
        have HH := Lib.hid (head_no s g2 p)
        have HS := Lib.hid (show numStart s.data.toList = 0 by unfold numStart; rw [if_neg HH.out])
        go_wp2_with fail
        go_loopw [5, 7] (fun v c wi => ∃ j : Nat, 0 ≤ j ∧ j ≤ m ∧ v = .int .i64 (numAcc s.data.toList j) ∧ c = .int .i64 j ∧ Below wr.heap.size wr wi) (fun _ c _ => m - (intOf c).toNat)
        case atStart => exact ⟨0, by omega, by omega, by rw [← HS.out, numAcc_start], rfl, Below.refl _ _⟩
        case round =>
          obtain ⟨j, j1, j2, rfl, rfl, hbi0⟩ := hrel
          have hbi := below_tr hbr hbi0
          obtain ⟨A, hA⟩ : ∃ A, numAcc s.data.toList j = A := ⟨_, rfl⟩
          have hA1 : I64 A := hA ▸ wrap_I64 _
          unfold I64 at hA1
          rw [hA]
          by_cases gj : j < m
          · have gj1 : (j : Int) < (m : Int) := by omega
            have gj2 : j < s.size := by omega
            have gj3 : (j : Int) < (s.size : Int) := by omega
            have gj4 : ((j : Int) == (m : Int)) = false := by rw [beq_eq_false_iff_ne]; omega
            have HG := Lib.hid (get_at s j gj2)
            by_cases d1 : 48 ≤ s[j].toNat
            · by_cases d2 : s[j].toNat ≤ 57
              · have HN := Lib.hid (acc_next s j (HS.out ▸ j1) gj2)
                have hA2 := Lib.hid hA
                clear hA
                go_wp2_with fail
                go_roundw
                case rel => exact ⟨j + 1, by omega, by omega, by rw [HN.out, hA2.out], by go_num, hbi0⟩
                case measure => simp [intOf]; omega
              · have d2' : ¬ ((s[j].toNat : Int) ≤ 57) := by omega
                have NO := Lib.hid (noNum_here (m := m) HNO.out (fun u hu e => by
                  have := (numVal_is hu e).2.2 j (HS.out ▸ j1) gj _ HG.out
                  omega))
                go_wp2_with fail
                refine wp_region_plan (fun w w' => Below w.heap.size w w') [.it (.int .i64 (j : Int)), .it (.int .i64 (m : Int)), .it (.bool false), .it (.bool false), .it undef, .it undef, .it undef, .it undef, .it undef, .it undef, .it (.bool false)] (by kernel_rfl) (by kernel_rfl) (fun w => Below.refl _ _) (fun _ _ _ => below_tr) ?_
                refine seqP_value (fun w => Below.refl _ _) _ (by first | rfl | simp) (fun w' hw' hctx => ?_) ?_
                · go_simp
                  try first | with_reducible rfl | assumption | simp
                simp only [Act.put, List.setIfInBounds_toArray, List.set_cons_zero, List.set_cons_succ]
                refine seqP_value (fun w => Below.refl _ _) _ (by first | rfl | simp) (fun w' hw' hctx => ?_) ?_
                · go_simp
                  try first | with_reducible rfl | assumption | simp
                simp only [Act.put, List.setIfInBounds_toArray, List.set_cons_zero, List.set_cons_succ]
                refine seqP_value (fun w => Below.refl _ _) _ (by first | rfl | simp) (fun w' hw' hctx => ?_) ?_
                · go_simp
                  try first | with_reducible rfl | assumption | simp
                simp only [Act.put, List.setIfInBounds_toArray, List.set_cons_zero, List.set_cons_succ]
                refine seqP_value (fun w => Below.refl _ _) _ (by first | rfl | simp) (fun w' hw' hctx => ?_) ?_
                · go_simp
                  try first | with_reducible rfl | assumption | simp
                simp only [Act.put, List.setIfInBounds_toArray, List.set_cons_zero, List.set_cons_succ]
                refine seqP_skip (by first | rfl | simp) ?_
                simp only [Act.put, List.setIfInBounds_toArray, List.set_cons_zero, List.set_cons_succ]
                refine seqP_skip (by first | rfl | simp) ?_
                simp only [Act.put, List.setIfInBounds_toArray, List.set_cons_zero, List.set_cons_succ]
                refine seqP_skip (by first | rfl | simp) ?_
                simp only [Act.put, List.setIfInBounds_toArray, List.set_cons_zero, List.set_cons_succ]
                refine seqP_skip (by first | rfl | simp) ?_
                simp only [Act.put, List.setIfInBounds_toArray, List.set_cons_zero, List.set_cons_succ]
                refine seqP_skip (by first | rfl | simp) ?_
                simp only [Act.put, List.setIfInBounds_toArray, List.set_cons_zero, List.set_cons_succ]
                refine seqP_skip (by first | rfl | simp) ?_
                simp only [Act.put, List.setIfInBounds_toArray, List.set_cons_zero, List.set_cons_succ]
                refine seqP_value (fun w => Below.refl _ _) _ (by first | rfl | simp) (fun w' hw' hctx => ?_) ?_
                · go_simp
                  try first | with_reducible rfl | assumption | simp
                simp only [Act.put, List.setIfInBounds_toArray, List.set_cons_zero, List.set_cons_succ]
                refine seqP_nil fun w' hw' _ => ?_
                go_wp2_with fail
                go_roundw
                case rel => exact ⟨m - 1, by omega, by omega, by go_num, NO.out, below_tr hbi (below_tr (Below.refl _ _).drew hw')⟩
                case measure => simp [intOf]; omega
            · have d1' : ¬ ((48 : Int) ≤ (s[j].toNat : Int)) := by omega
              have NO := Lib.hid (noNum_here (m := m) HNO.out (fun u hu e => by
                have := (numVal_is hu e).2.2 j (HS.out ▸ j1) gj _ HG.out
                omega))
              go_wp2_with fail
              refine wp_region_plan (fun w w' => Below w.heap.size w w') [.it (.int .i64 (j : Int)), .it (.int .i64 (m : Int)), .it (.bool false), .it (.bool false), .it undef, .it undef, .it undef, .it undef, .it undef, .it undef, .it (.bool false)] (by kernel_rfl) (by kernel_rfl) (fun w => Below.refl _ _) (fun _ _ _ => below_tr) ?_
              refine seqP_value (fun w => Below.refl _ _) _ (by first | rfl | simp) (fun w' hw' hctx => ?_) ?_
              · go_simp
                try first | with_reducible rfl | assumption | simp
              simp only [Act.put, List.setIfInBounds_toArray, List.set_cons_zero, List.set_cons_succ]
              refine seqP_value (fun w => Below.refl _ _) _ (by first | rfl | simp) (fun w' hw' hctx => ?_) ?_
              · go_simp
                try first | with_reducible rfl | assumption | simp
              simp only [Act.put, List.setIfInBounds_toArray, List.set_cons_zero, List.set_cons_succ]
              refine seqP_value (fun w => Below.refl _ _) _ (by first | rfl | simp) (fun w' hw' hctx => ?_) ?_
              · go_simp
                try first | with_reducible rfl | assumption | simp
              simp only [Act.put, List.setIfInBounds_toArray, List.set_cons_zero, List.set_cons_succ]
              refine seqP_value (fun w => Below.refl _ _) _ (by first | rfl | simp) (fun w' hw' hctx => ?_) ?_
              · go_simp
                try first | with_reducible rfl | assumption | simp
              simp only [Act.put, List.setIfInBounds_toArray, List.set_cons_zero, List.set_cons_succ]
              refine seqP_skip (by first | rfl | simp) ?_
              simp only [Act.put, List.setIfInBounds_toArray, List.set_cons_zero, List.set_cons_succ]
              refine seqP_skip (by first | rfl | simp) ?_
              simp only [Act.put, List.setIfInBounds_toArray, List.set_cons_zero, List.set_cons_succ]
              refine seqP_skip (by first | rfl | simp) ?_
              simp only [Act.put, List.setIfInBounds_toArray, List.set_cons_zero, List.set_cons_succ]
              refine seqP_skip (by first | rfl | simp) ?_
              simp only [Act.put, List.setIfInBounds_toArray, List.set_cons_zero, List.set_cons_succ]
              refine seqP_skip (by first | rfl | simp) ?_
              simp only [Act.put, List.setIfInBounds_toArray, List.set_cons_zero, List.set_cons_succ]
              refine seqP_skip (by first | rfl | simp) ?_
              simp only [Act.put, List.setIfInBounds_toArray, List.set_cons_zero, List.set_cons_succ]
              refine seqP_value (fun w => Below.refl _ _) _ (by first | rfl | simp) (fun w' hw' hctx => ?_) ?_
              · go_simp
                try first | with_reducible rfl | assumption | simp
              simp only [Act.put, List.setIfInBounds_toArray, List.set_cons_zero, List.set_cons_succ]
              refine seqP_nil fun w' hw' _ => ?_
              go_wp2_with fail
              go_roundw
              case rel => exact ⟨m - 1, by omega, by omega, by go_num, NO.out, below_tr hbi (below_tr (Below.refl _ _).drew hw')⟩
              case measure => simp [intOf]; omega
          · obtain rfl : j = m := by omega
            have gj1 : ¬ (j : Int) < (j : Int) := by omega
            obtain ⟨V, hV⟩ : ∃ V, numVal s.data.toList j = V := ⟨_, rfl⟩
            have hV1 : I64 V := hV ▸ numVal_I64 _ _
            have hAV : IntKind.i64.wrap (-A) = V := by rw [← hV, ← hA]; unfold numVal; rw [if_neg HH.out]
            have hV3 := hV1
            unfold I64 at hV3
            obtain ⟨x, hx⟩ : ∃ x, s.extract 0 j = x := ⟨_, rfl⟩
            obtain ⟨y, hy⟩ : ∃ y : ByteArray, ⟨(Lib.itoa V).toArray⟩ = y := ⟨_, rfl⟩
            have hxl : x.data.toList = s.data.toList.take j := by rw [← hx]; simp
            have HV := Lib.hid hV
            clear hV
            by_cases hyx : y = x
            · subst hyx
              have hfin : NumR s.data.toList V j := ⟨hV1, by rw [L0.out]; omega, h2, HNO.out, Or.inr ⟨g, by rw [← hxl, ← hy]⟩⟩
              have HF := Lib.hid hfin
              clear hfin
              go_wp2_with fail
              refine wp_region_plan (fun w w' => Below w.heap.size w w') [.it (.int .i64 (j : Int)), .it (.int .i64 (j : Int)), .it (.bool true), .it (.bool true), .it (.int .i64 (V : Int)), .it (.string y), .it (.string s), .it (.int .i64 (j : Int)), .it (.string y), .it (.bool true), .it (.bool true)] (by kernel_rfl) (by kernel_rfl) (fun w => Below.refl _ _) (fun _ _ _ => below_tr) ?_
              refine seqP_value (fun w => Below.refl _ _) _ (by first | rfl | simp) (fun w' hw' hctx => ?_) ?_
              · go_simp
                try first | with_reducible rfl | assumption | simp
              simp only [Act.put, List.setIfInBounds_toArray, List.set_cons_zero, List.set_cons_succ]
              refine seqP_value (fun w => Below.refl _ _) _ (by first | rfl | simp) (fun w' hw' hctx => ?_) ?_
              · go_simp
                try first | with_reducible rfl | assumption | simp
              simp only [Act.put, List.setIfInBounds_toArray, List.set_cons_zero, List.set_cons_succ]
              refine seqP_value (fun w => Below.refl _ _) _ (by first | rfl | simp) (fun w' hw' hctx => ?_) ?_
              · go_simp
                try first | with_reducible rfl | assumption | simp
              simp only [Act.put, List.setIfInBounds_toArray, List.set_cons_zero, List.set_cons_succ]
              refine seqP_value (fun w => Below.refl _ _) _ (by first | rfl | simp) (fun w' hw' hctx => ?_) ?_
              · go_simp
                try first | with_reducible rfl | assumption | simp
              simp only [Act.put, List.setIfInBounds_toArray, List.set_cons_zero, List.set_cons_succ]
              refine seqP_value (fun w => Below.refl _ _) _ (by first | rfl | simp) (fun w' hw' hctx => ?_) ?_
              · go_simp
                try first | with_reducible rfl | assumption | simp
              simp only [Act.put, List.setIfInBounds_toArray, List.set_cons_zero, List.set_cons_succ]
              refine seqP_call 49 #[.int .i64 V] (.string y) (by first | rfl | simp) (fun w' hw' hctx => ?_) (fun w' hw' hctx => (digits_any V hV1.1 hV1.2 w').mono fun _ _ hq => by rw [hy] at hq; exact hq) ?_
              · go_simp
              simp only [Act.put, List.setIfInBounds_toArray, List.set_cons_zero, List.set_cons_succ]
              refine seqP_value (fun w => Below.refl _ _) _ (by first | rfl | simp) (fun w' hw' hctx => ?_) ?_
              · go_simp
                try first | with_reducible rfl | assumption | simp
              simp only [Act.put, List.setIfInBounds_toArray, List.set_cons_zero, List.set_cons_succ]
              refine seqP_value (fun w => Below.refl _ _) _ (by first | rfl | simp) (fun w' hw' hctx => ?_) ?_
              · go_simp
                try first | with_reducible rfl | assumption | simp
              simp only [Act.put, List.setIfInBounds_toArray, List.set_cons_zero, List.set_cons_succ]
              refine seqP_value (fun w => Below.refl _ _) _ (by first | rfl | simp) (fun w' hw' hctx => ?_) ?_
              · go_simp
                try first | with_reducible rfl | assumption | simp
              simp only [Act.put, List.setIfInBounds_toArray, List.set_cons_zero, List.set_cons_succ]
              refine seqP_value (fun w => Below.refl _ _) _ (by first | rfl | simp) (fun w' hw' hctx => ?_) ?_
              · go_simp
                try first | with_reducible rfl | assumption | simp
              simp only [Act.put, List.setIfInBounds_toArray, List.set_cons_zero, List.set_cons_succ]
              refine seqP_value (fun w => Below.refl _ _) _ (by first | rfl | simp) (fun w' hw' hctx => ?_) ?_
              · go_simp
                try first | with_reducible rfl | assumption | simp
              simp only [Act.put, List.setIfInBounds_toArray, List.set_cons_zero, List.set_cons_succ]
              refine seqP_nil fun w' hw' _ => ?_
              go_wp2_with fail
              go_ret2
              exact ⟨⟨V, j, HF.out, rfl⟩, below_tr hbi (below_tr (Below.refl _ _).drew hw')⟩
            · have hyx' : ¬ y.toList = x.toList := fun e => hyx (Go.WideShapes.bytes_inj (by rw [← ByteArray.toList_eq, ← ByteArray.toList_eq]; exact e))
              have NO := Lib.hid (noNum_here (m := j) HNO.out (fun u hu e => by
                have := (numVal_is hu e).1
                rw [HV.out] at this
                apply hyx
                apply Go.WideShapes.bytes_inj
                rw [hxl, e, ← hy, this]))
              go_wp2_with fail
              refine wp_region_plan (fun w w' => Below w.heap.size w w') [.it (.int .i64 (j : Int)), .it (.int .i64 (j : Int)), .it (.bool true), .it (.bool true), .it (.int .i64 (V : Int)), .it (.string y), .it (.string s), .it (.int .i64 (j : Int)), .it (.string x), .it (.bool false), .it (.bool false)] (by kernel_rfl) (by kernel_rfl) (fun w => Below.refl _ _) (fun _ _ _ => below_tr) ?_
              refine seqP_value (fun w => Below.refl _ _) _ (by first | rfl | simp) (fun w' hw' hctx => ?_) ?_
              · go_simp
                try first | with_reducible rfl | assumption | simp
              simp only [Act.put, List.setIfInBounds_toArray, List.set_cons_zero, List.set_cons_succ]
              refine seqP_value (fun w => Below.refl _ _) _ (by first | rfl | simp) (fun w' hw' hctx => ?_) ?_
              · go_simp
                try first | with_reducible rfl | assumption | simp
              simp only [Act.put, List.setIfInBounds_toArray, List.set_cons_zero, List.set_cons_succ]
              refine seqP_value (fun w => Below.refl _ _) _ (by first | rfl | simp) (fun w' hw' hctx => ?_) ?_
              · go_simp
                try first | with_reducible rfl | assumption | simp
              simp only [Act.put, List.setIfInBounds_toArray, List.set_cons_zero, List.set_cons_succ]
              refine seqP_value (fun w => Below.refl _ _) _ (by first | rfl | simp) (fun w' hw' hctx => ?_) ?_
              · go_simp
                try first | with_reducible rfl | assumption | simp
              simp only [Act.put, List.setIfInBounds_toArray, List.set_cons_zero, List.set_cons_succ]
              refine seqP_value (fun w => Below.refl _ _) _ (by first | rfl | simp) (fun w' hw' hctx => ?_) ?_
              · go_simp
                try first | with_reducible rfl | assumption | simp
              simp only [Act.put, List.setIfInBounds_toArray, List.set_cons_zero, List.set_cons_succ]
              refine seqP_call 49 #[.int .i64 V] (.string y) (by first | rfl | simp) (fun w' hw' hctx => ?_) (fun w' hw' hctx => (digits_any V hV1.1 hV1.2 w').mono fun _ _ hq => by rw [hy] at hq; exact hq) ?_
              · go_simp
              simp only [Act.put, List.setIfInBounds_toArray, List.set_cons_zero, List.set_cons_succ]
              refine seqP_value (fun w => Below.refl _ _) _ (by first | rfl | simp) (fun w' hw' hctx => ?_) ?_
              · go_simp
                try first | with_reducible rfl | assumption | simp
              simp only [Act.put, List.setIfInBounds_toArray, List.set_cons_zero, List.set_cons_succ]
              refine seqP_value (fun w => Below.refl _ _) _ (by first | rfl | simp) (fun w' hw' hctx => ?_) ?_
              · go_simp
                try first | with_reducible rfl | assumption | simp
              simp only [Act.put, List.setIfInBounds_toArray, List.set_cons_zero, List.set_cons_succ]
              refine seqP_value (fun w => Below.refl _ _) _ (by first | rfl | simp) (fun w' hw' hctx => ?_) ?_
              · go_simp
                try first | with_reducible rfl | assumption | simp
              simp only [Act.put, List.setIfInBounds_toArray, List.set_cons_zero, List.set_cons_succ]
              refine seqP_value (fun w => Below.refl _ _) _ (by first | rfl | simp) (fun w' hw' hctx => ?_) ?_
              · go_simp
                try first | with_reducible rfl | assumption | simp
              simp only [Act.put, List.setIfInBounds_toArray, List.set_cons_zero, List.set_cons_succ]
              refine seqP_value (fun w => Below.refl _ _) _ (by first | rfl | simp) (fun w' hw' hctx => ?_) ?_
              · go_simp
                try first | with_reducible rfl | assumption | simp
              simp only [Act.put, List.setIfInBounds_toArray, List.set_cons_zero, List.set_cons_succ]
              refine seqP_nil fun w' hw' _ => ?_
              go_wp2_with fail
              go_roundw
              case rel => exact ⟨j - 1, by omega, by omega, by go_num, NO.out, below_tr hbi (below_tr (Below.refl _ _).drew hw')⟩
              case measure => simp [intOf]; omega
    · have g1 : ¬ (0 : Int) < (m : Int) := by omega
      go_wp2_with fail
      go_ret2
      obtain rfl : m = 0 := by omega
      exact ⟨⟨0, 0, ⟨by unfold I64; omega, by omega, by omega, HNO.out, Or.inl ⟨rfl, rfl⟩⟩, rfl⟩, hbr⟩
end Go.Proofs.YtoglaibcmfjclaaDoor
