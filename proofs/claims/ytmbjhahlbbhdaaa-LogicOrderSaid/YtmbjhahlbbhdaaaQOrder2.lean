/-
  The law LogicOrder: whatever the three values, it answers true.
-/
import Derived.Test.YtmbjhahlbbhdaaaQOrder
import Derived.Test.YtmbjhahlbbhdaaaQOrd
namespace Go.Proofs.Ytmbjhahlbbhdaaa
open Go.RowKit

theorem res_eta (r : Res) : r = ⟨r.k, r.n, r.e⟩ := by cases r; rfl

theorem order_any (k n u : Int) (t : ByteArray) (k' n' u' : Int) (t' : ByteArray) (k'' n'' u'' : Int) (t'' : ByteArray) (w : World) :
    Calls Try.prog 7 #[.agg #[.int .u8 k, .int .i64 n, .int .i64 u, .string t], .agg #[.int .u8 k', .int .i64 n', .int .i64 u', .string t'], .agg #[.int .u8 k'', .int .i64 n'', .int .i64 u'', .string t'']] w fun e w' => e = .returned (.bool true) ∧ Below w.heap.size w w' := by
  by_cases h1 : t.size ≤ 2000
  · by_cases h2 : t'.size ≤ 2000
    · by_cases h3 : t''.size ≤ 2000
      · by_cases k0 : k = 0
        · exact order_null1 k n u t k' n' u' t' k'' n'' u'' t'' h1 h2 h3 (lessR_null (.inl k0) ..) (lessR_null (.inr k0) ..) (equalR_null (.inl k0) ..) (by simp [k0]) w
        · have b0 : (k == 0) = false := by simpa using k0
          by_cases k1 : k' = 0
          · exact order_null2 k n u t k' n' u' t' k'' n'' u'' t'' h1 h2 h3 (lessR_null (.inr k1) ..) (lessR_null (.inl k1) ..) (equalR_null (.inr k1) ..) b0 (by simp [k1]) w
          · by_cases e : k = k'
            · subst e
              have hn := cmpK_neg k n u t n' u' t'
              rcases Int.lt_trichotomy (cmpK k n u t n' u' t') 0 with hc | hc | hc
              · have hx : lessR k n u t k n' u' t' = ⟨2, 1, 0⟩ := by rw [lessR_same k0, decide_eq_true hc]; rfl
                have hy : lessR k n' u' t' k n u t = ⟨2, 0, 0⟩ := by rw [lessR_same k0, hn, decide_eq_false (by omega)]; rfl
                have hz : equalR k n u t k n' u' t' = ⟨2, 0, 0⟩ := by rw [equalR_same k0, show (cmpK k n u t n' u' t' == 0) = false by rw [beq_eq_false_iff_ne]; omega]; rfl
                by_cases k2 : k'' = 0
                · exact order_lt_T3 k n u t n' u' t' k'' n'' u'' t'' h1 h2 h3 hx hy hz b0 0 0 0 0 0 (lessR_null (.inr k2) ..) (lessR_null (.inr k2) ..) (by decide) w
                · by_cases k3 : k = k''
                  · subst k3
                    by_cases hd : cmpK k n' u' t' n'' u'' t'' < 0
                    · exact order_lt_T4 k n u t n' u' t' k n'' u'' t'' h1 h2 h3 hx hy hz b0 (by rw [lessR_same k0]; simp [ofN, hd]) (by rw [lessR_same k0]; simp [ofN, cmpK_trans k n u t n' u' t' n'' u'' t'' hc hd]) w
                    · exact order_lt_T3 k n u t n' u' t' k n'' u'' t'' h1 h2 h3 hx hy hz b0 2 0 _ _ _ (by rw [lessR_same k0]; simp [ofN, hd]) (res_eta _) (by decide) w
                  · exact order_lt_T1 k n u t n' u' t' k'' n'' u'' t'' h1 h2 h3 hx hy hz b0 _ _ _ (lessR_ne k0 k2 k3 ..) (res_eta _) w
              · have hx : lessR k n u t k n' u' t' = ⟨2, 0, 0⟩ := by rw [lessR_same k0, hc]; rfl
                have hy : lessR k n' u' t' k n u t = ⟨2, 0, 0⟩ := by rw [lessR_same k0, hn, hc]; rfl
                have hz : equalR k n u t k n' u' t' = ⟨2, 1, 0⟩ := by rw [equalR_same k0, hc]; rfl
                by_cases k2 : k'' = 0
                · exact order_eq_T2 k n u t n' u' t' k'' n'' u'' t'' h1 h2 h3 hx hy hz b0 0 0 0 0 0 (lessR_null (.inr k2) ..) (lessR_null (.inr k2) ..) w
                · by_cases k3 : k = k''
                  · subst k3
                    exact order_eq_T2 k n u t n' u' t' k n'' u'' t'' h1 h2 h3 hx hy hz b0 _ _ _ _ _ (lessR_same k0 ..) (res_eta _) w
                  · exact order_eq_T1 k n u t n' u' t' k'' n'' u'' t'' h1 h2 h3 hx hy hz b0 _ _ _ (lessR_ne k0 k2 k3 ..) (res_eta _) w
              · have hx : lessR k n u t k n' u' t' = ⟨2, 0, 0⟩ := by rw [lessR_same k0, decide_eq_false (by omega)]; rfl
                have hy : lessR k n' u' t' k n u t = ⟨2, 1, 0⟩ := by rw [lessR_same k0, hn, decide_eq_true (by omega)]; rfl
                have hz : equalR k n u t k n' u' t' = ⟨2, 0, 0⟩ := by rw [equalR_same k0, show (cmpK k n u t n' u' t' == 0) = false by rw [beq_eq_false_iff_ne]; omega]; rfl
                by_cases k2 : k'' = 0
                · exact order_gt_T2 k n u t n' u' t' k'' n'' u'' t'' h1 h2 h3 hx hy hz b0 0 0 0 0 0 (lessR_null (.inr k2) ..) (lessR_null (.inr k2) ..) w
                · by_cases k3 : k = k''
                  · subst k3
                    exact order_gt_T2 k n u t n' u' t' k n'' u'' t'' h1 h2 h3 hx hy hz b0 _ _ _ _ _ (lessR_same k0 ..) (res_eta _) w
                  · exact order_gt_T1 k n u t n' u' t' k'' n'' u'' t'' h1 h2 h3 hx hy hz b0 _ _ _ (lessR_ne k0 k2 k3 ..) (res_eta _) w
            · exact order_kinds k n u t k' n' u' t' k'' n'' u'' t'' h1 h2 h3 (lessR_ne k0 k1 e ..) (lessR_ne k1 k0 (Ne.symm e) ..) (equalR_ne k0 k1 e ..) b0 (by simpa using k1) (by simpa using e) w
      · exact order_big3 k n u t k' n' u' t' k'' n'' u'' t'' h1 h2 (by omega) w
    · exact order_big2 k n u t k' n' u' t' k'' n'' u'' t'' h1 (by omega) w
  · exact order_big1 k n u t k' n' u' t' k'' n'' u'' t'' (by omega) w
end Go.Proofs.Ytmbjhahlbbhdaaa
