/-
  row.cut: what stands ahead of the first separator that is not inside a text.
-/
import Derived.Test.YtoglaibcmfjclaaDoorWVal
namespace Go.Proofs.YtoglaibcmfjclaaDoor
open Go.RowKit

/-- What cut answers of s. -/
def CutS (s p r : ByteArray) (b : Bool) : Prop := cutG false s.data.toList = (p.data.toList, cond b (some r.data.toList) none) ∧ (b = false → r = ⟨#[]⟩)

theorem CutS.exists (s : ByteArray) : ∃ p r b, CutS s p r b := by
  obtain ⟨p, r, h⟩ : ∃ p r, cutG false s.data.toList = (p, r) := ⟨_, _, rfl⟩
  cases r with
  | none => exact ⟨⟨p.toArray⟩, ⟨#[]⟩, false, by rw [h]; simp, fun _ => rfl⟩
  | some r => exact ⟨⟨p.toArray⟩, ⟨r.toArray⟩, true, by rw [h]; simp, fun e => by cases e⟩

theorem ba_ext {p q : ByteArray} (h : p.data.toList = q.data.toList) : p = q := by
  rw [← ba_eta p, ← ba_eta q, h]

theorem CutS.uniq {s p r p' r' : ByteArray} {b b' : Bool} (h : CutS s p r b) (h' : CutS s p' r' b') : p = p' ∧ r = r' ∧ b = b' := by
  have e := h.1.symm.trans h'.1
  simp only [Prod.mk.injEq] at e
  refine ⟨ba_ext e.1, ?_⟩
  cases b <;> cases b'
  · exact ⟨by rw [h.2 rfl, h'.2 rfl], rfl⟩
  · cases e.2
  · cases e.2
  · exact ⟨ba_ext (by simpa using e.2), rfl⟩

/-- Between two rounds. -/
def CutI (l : List UInt8) (q : Bool) (i : Nat) : Prop := cutG false l = (l.take i ++ (cutG q (l.drop i)).1, (cutG q (l.drop i)).2)

theorem take_one {l : List UInt8} {i : Nat} (h : i < l.length) : l.take (i + 1) = l.take i ++ [l[i]] := by rw [List.take_add_one]; simp [h]

theorem CutI.quote {l : List UInt8} {q : Bool} {i : Nat} (h : CutI l q i) (hi : i < l.length) (hc : l[i] = 39) : CutI l (!q) (i + 1) := by
  unfold CutI at h ⊢
  rw [h, List.drop_eq_getElem_cons hi, hc, cutG_quote, take_one hi, hc]
  simp only [List.append_assoc, List.cons_append, List.nil_append]

theorem CutI.inside {l : List UInt8} {i : Nat} (h : CutI l true i) (hi : i < l.length) (hc : l[i] ≠ 39) : CutI l true (i + 1) := by
  unfold CutI at h ⊢
  rw [h, List.drop_eq_getElem_cons hi, cutG_in _ _ hc, take_one hi]
  simp only [List.append_assoc, List.cons_append, List.nil_append]

theorem pre_two (c : UInt8) (r : List UInt8) : Lib.hasPrefix (c :: r) [44, 32] = true ↔ c = 44 ∧ r.head? = some 32 := by
  cases r with
  | nil => simp [Lib.hasPrefix]
  | cons d r =>
    simp only [Lib.hasPrefix, List.isPrefixOf, Bool.and_true, Bool.and_eq_true, beq_iff_eq, List.head?_cons, Option.some.injEq]
    exact ⟨fun ⟨a, b⟩ => ⟨a.symm, b.symm⟩, fun ⟨a, b⟩ => ⟨a.symm, b.symm⟩⟩

theorem CutI.outside {l : List UInt8} {i : Nat} (h : CutI l false i) (hi : i < l.length) (hc : l[i] ≠ 39) (hp : Lib.hasPrefix (l.drop i) [44, 32] = false) : CutI l false (i + 1) := by
  unfold CutI at h ⊢
  rw [List.drop_eq_getElem_cons hi] at hp h
  rw [h, cutG_out _ _ hc (fun e => by rw [(pre_two _ _).2 e] at hp; cases hp), take_one hi]
  simp only [List.append_assoc, List.cons_append, List.nil_append]

theorem CutI.sep {l : List UInt8} {i : Nat} (h : CutI l false i) (hp : Lib.hasPrefix (l.drop i) [44, 32] = true) : cutG false l = (l.take i, some (l.drop (i + 2))) ∧ i + 2 ≤ l.length := by
  unfold CutI at h
  have hi : i < l.length := by
    rcases Nat.lt_or_ge i l.length with q | q
    · exact q
    · rw [List.drop_eq_nil_of_le q] at hp; simp [Lib.hasPrefix] at hp
  rw [List.drop_eq_getElem_cons hi] at hp h
  obtain ⟨h1, h2⟩ := (pre_two _ _).1 hp
  have hi2 : i + 1 < l.length := by
    rcases Nat.lt_or_ge (i + 1) l.length with q | q
    · exact q
    · rw [List.drop_eq_nil_of_le q] at h2; cases h2
  rw [List.drop_eq_getElem_cons hi2] at h h2
  simp only [List.head?_cons, Option.some.injEq] at h2
  rw [h1, h2, cutG_sep] at h
  refine ⟨?_, by omega⟩
  rw [h]
  simp

theorem CutI.last {l : List UInt8} {q : Bool} (h : CutI l q l.length) : cutG false l = (l, none) := by
  unfold CutI at h
  rw [h, List.drop_length, List.take_length]
  simp [cutG]

theorem ext_take (s : ByteArray) (i : Nat) : (s.extract 0 i).data.toList = s.data.toList.take i := by
  have := Lib.extract_toList s 0 i
  rw [ByteArray.toList_eq] at this
  rw [this]
  simp

set_option maxRecDepth 100000 in
set_option maxHeartbeats 2000000 in
theorem cut_is (s p r : ByteArray) (b : Bool) (hs : s.size ≤ 100000) (h : CutS s p r b) (w : World) :
    Calls Tryd.prog 57 #[.string s] w fun e w' => e = .returned (.tuple #[.string p, .string r, .bool b]) ∧ Below w.heap.size w w' := by
  have HC := Lib.hid h
  have hll : s.data.toList.length = s.size := by simp
  have HL := Lib.hid hll
  clear h hll
  go_enter Tryd.func57, Tryd.ntmps57
  go_wp2_with fail
  go_loopg [5, 9] s.size (fun gg s5 s9 wr => ∃ (i : Nat) (q : Bool), s9 = .int .i64 i ∧ s5 = .bool q ∧ i ≤ s.size ∧ s.size - i ≤ gg ∧ Hid (CutI s.data.toList q i) ∧ wr = w)
  case atStart => exact ⟨0, false, rfl, rfl, Nat.zero_le _, by omega, Lib.hid (by simp [CutI]), rfl⟩
  case round =>
    obtain ⟨i, q, rfl, rfl, hin, hgg, HI, rfl⟩ := hrel
    by_cases hlt : i < s.size
    · have hltz : (i : Int) < (s.size : Int) := by omega
      have hget : s.data.toList[i]'(by rw [HL.out]; exact hlt) = s[i] := rfl
      obtain ⟨c, hc⟩ : ∃ c, ((s[i].toNat : Int) == 39) = c := ⟨_, rfl⟩
      have HCC : Hid ((s.data.toList[i]'(by rw [HL.out]; exact hlt) = 39) ↔ c = true) := Lib.hid (by
        rw [hget, ← hc, beq_iff_eq]
        constructor
        · intro e; rw [e]; rfl
        · intro e; exact UInt8.toNat_inj.1 (by have : s[i].toNat = 39 := by omega
                                               rw [this]; rfl))
      clear hget
      cases c
      · cases q
        · obtain ⟨f, hf⟩ : ∃ f, Lib.hasPrefix (s.data.toList.drop i) [44, 32] = f := ⟨_, rfl⟩
          have hpx := fun W => Tryd.strings_HasPrefix (s.extract i s.size) ⟨#[44, 32]⟩ W
          rw [ext_drop, show (⟨#[44, 32]⟩ : ByteArray).data.toList = [44, 32] from rfl, hf] at hpx
          have HF := Lib.hid hf
          clear hf
          cases f
          · go_wp2_with fail
            refine (hpx _).mono ?_
            rintro e w2 ⟨rfl, rfl⟩
            go_wp2_with fail
            go_roundg (s.size - (i + 1))
            case measure => omega
            case rel => exact ⟨i + 1, false, by go_num, rfl, by omega, Nat.le_refl _, Lib.hid (HI.out.outside (by rw [HL.out]; exact hlt) (fun e => by have := HCC.out.1 e; cases this) HF.out), rfl⟩
          · have hsp := HI.out.sep HF.out
            have hi2 : i + 2 ≤ s.size := by rw [← HL.out]; exact hsp.2
            have hi2z : (i : Int) + 2 ≤ (s.size : Int) := by omega
            have HR : Hid (CutS s (s.extract 0 i) (s.extract (i + 2) s.size) true) := Lib.hid ⟨by rw [hsp.1, ext_take, ext_drop]; rfl, fun e => by cases e⟩
            obtain ⟨rfl, rfl, rfl⟩ := HC.out.uniq HR.out
            have hew : wrap64 ((i : Int) + 2) = (i : Int) + 2 := by unfold wrap64; omega
            have hew2 : IntKind.i64.wrap ((i : Int) + 2) = (i : Int) + 2 := by rw [IntKind.wrap_i64]; omega
            have hew3 : 0 ≤ (i : Int) + 2 := by omega
            have hew4 : ((i : Int) + 2).toNat = i + 2 := by omega
            clear hsp
            go_wp2_with fail
            refine (hpx _).mono ?_
            rintro e w2 ⟨rfl, rfl⟩
            go_wp2_with fail
            have hdr := below_drw w2
            try simp only [List.append_eq, List.cons_append, List.nil_append]
            refine RX.wp_region_plan (fun w w' => Below w.heap.size w w') [.it (.string s), .it (.int .i64 (i : Int)), .it (.string (s.extract 0 i)), .it (.string s), .it (.int .i64 (i : Int)), .it (.int .i64 ((i : Int) + 2)), .it (.string (s.extract (i + 2) s.size)), .it (.string (s.extract 0 i)), .it (.string (s.extract (i + 2) s.size)), .it (.bool true)] (by kernel_rfl) (by kernel_rfl) (fun _ => Below.refl _ _) (fun _ _ _ => below_tr) ?_
            refine RX.seqP_value (fun _ => Below.refl _ _) _ (by first | rfl | simp) (fun w' hw' hctx => by (go_simp); (try first | with_reducible rfl | simp)) ?_
            simp only [Act.put, List.setIfInBounds_toArray, List.set_cons_zero, List.set_cons_succ]
            refine RX.seqP_value (fun _ => Below.refl _ _) _ (by first | rfl | simp) (fun w' hw' hctx => by (go_simp); (try first | with_reducible rfl | simp)) ?_
            simp only [Act.put, List.setIfInBounds_toArray, List.set_cons_zero, List.set_cons_succ]
            refine RX.seqP_value (fun _ => Below.refl _ _) _ (by first | rfl | simp) (fun w' hw' hctx => by (go_simp); (try first | with_reducible rfl | simp)) ?_
            simp only [Act.put, List.setIfInBounds_toArray, List.set_cons_zero, List.set_cons_succ]
            refine RX.seqP_value (fun _ => Below.refl _ _) _ (by first | rfl | simp) (fun w' hw' hctx => by (go_simp); (try first | with_reducible rfl | simp)) ?_
            simp only [Act.put, List.setIfInBounds_toArray, List.set_cons_zero, List.set_cons_succ]
            refine RX.seqP_value (fun _ => Below.refl _ _) _ (by first | rfl | simp) (fun w' hw' hctx => by (go_simp); (try first | with_reducible rfl | simp)) ?_
            simp only [Act.put, List.setIfInBounds_toArray, List.set_cons_zero, List.set_cons_succ]
            refine RX.seqP_value (fun _ => Below.refl _ _) _ (by first | rfl | simp) (fun w' hw' hctx => by (go_simp); (try first | with_reducible rfl | simp)) ?_
            simp only [Act.put, List.setIfInBounds_toArray, List.set_cons_zero, List.set_cons_succ]
            refine RX.seqP_value (fun _ => Below.refl _ _) _ (by first | rfl | simp) (fun w' hw' hctx => by (go_simp); (try first | with_reducible rfl | simp)) ?_
            simp only [Act.put, List.setIfInBounds_toArray, List.set_cons_zero, List.set_cons_succ]
            refine RX.seqP_value (fun _ => Below.refl _ _) _ (by first | rfl | simp) (fun w' hw' hctx => by (go_simp); (try first | with_reducible rfl | simp)) ?_
            simp only [Act.put, List.setIfInBounds_toArray, List.set_cons_zero, List.set_cons_succ]
            refine RX.seqP_value (fun _ => Below.refl _ _) _ (by first | rfl | simp) (fun w' hw' hctx => by (go_simp); (try first | with_reducible rfl | simp)) ?_
            simp only [Act.put, List.setIfInBounds_toArray, List.set_cons_zero, List.set_cons_succ]
            refine RX.seqP_value (fun _ => Below.refl _ _) _ (by first | rfl | simp) (fun w' hw' hctx => by (go_simp); (try first | with_reducible rfl | simp)) ?_
            simp only [Act.put, List.setIfInBounds_toArray, List.set_cons_zero, List.set_cons_succ]
            refine RX.seqP_nil (fun v1 hR hctx _ => ?_)
            have hv1 := below_tr hdr hR
            clear hctx hR
            go_wp2_with fail
            go_ret3
            exact ⟨rfl, hv1⟩
        · go_wp2_with fail
          go_roundg (s.size - (i + 1))
          case measure => omega
          case rel => exact ⟨i + 1, true, by go_num, rfl, by omega, Nat.le_refl _, Lib.hid (HI.out.inside (by rw [HL.out]; exact hlt) (fun e => by have := HCC.out.1 e; cases this)), rfl⟩
      · go_wp2_with fail
        go_roundg (s.size - (i + 1))
        case measure => omega
        case rel => exact ⟨i + 1, !q, by go_num, rfl, by omega, Nat.le_refl _, Lib.hid (HI.out.quote (by rw [HL.out]; exact hlt) (HCC.out.2 (by first | rfl | trivial))), rfl⟩
    · have hltz : ¬ (i : Int) < (s.size : Int) := by omega
      have hi : i = s.data.toList.length := by rw [HL.out]; omega
      have HR : Hid (CutS s s ⟨#[]⟩ false) := Lib.hid ⟨by have := HI.out; rw [hi] at this; exact this.last, fun _ => rfl⟩
      obtain ⟨rfl, rfl, rfl⟩ := HC.out.uniq HR.out
      clear hi
      go_wp2_with fail
      go_ret3
      exact ⟨rfl, Below.refl _ _⟩

end Go.Proofs.YtoglaibcmfjclaaDoor
