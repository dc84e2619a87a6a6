/-
  ModesNames, walked (stage 13).
-/
import Derived.Test.YtdncoegdgoacnaaOMath
import Derived.Test.YtdncoegdgoacnaaRegX
import Derived.Deep.RegionHeld3
import Derived.Deep.Cut
import Derived.Deep.DrawnRows
import Derived.BigQuiet
import Derived.Deep.QuietTactic
namespace Go.Proofs.Ytdncoegdgoacnaa
open Go.RowKit
set_option linter.unusedVariables false

def pairsN : List (Int × Int) := [(0, 1), (3, 1), (1, 0), (1, 9), (2, 3), (2, 0), (255, 255)]
def rowsY : List ByteArray := [⟨#[121, 121, 121, 121, 121, 121, 121, 110]⟩, ⟨#[121, 121, 121, 121, 121, 121, 110, 110]⟩, ⟨#[121, 121, 121, 121, 110, 110, 110, 110]⟩, ⟨#[121, 121, 121, 110, 110, 110, 110, 110]⟩, ⟨#[121, 121, 110, 110, 121, 110, 110, 110]⟩, ⟨#[121, 121, 110, 110, 110, 110, 110, 110]⟩, ⟨#[121, 110, 110, 110, 110, 110, 110, 110]⟩, ⟨#[110, 110, 110, 110, 110, 110, 110, 110]⟩]

/-- A list of one mode, just made. -/
def Arg1 (a : Int) (W : World) (v : Value) : Prop := ∃ g, v = .slice (some ⟨g, 0, none⟩) 1 1 ∧ g < W.heap.size ∧ W.cell? ⟨g, 0, none⟩ = some (.int .u8 a)
theorem Arg1.below {a : Int} {W W' : World} {v : Value} (h : Arg1 a W v) (hb : Below W.heap.size W W') : Arg1 a W' v := by
  obtain ⟨g, h1, h2, h3⟩ := h
  exact ⟨g, h1, Nat.lt_of_lt_of_le h2 hb.size, by rw [hb.cell h2]; exact h3⟩
theorem arg1_new (a : Int) (W : World) : Arg1 a (W.alloc (.cells #[.int .u8 a] 5)) (.slice (some ⟨W.heap.size, 0, none⟩) 1 1) := ⟨_, rfl, by simp, by simp⟩
theorem arg1_set {a r : Int} (ha : U8 a) (hr : setN [a] = r) (W : World) (v : Value) (h : Arg1 a W v) : Calls Try.prog 11 #[v] W fun e w' => e = .returned (.int .u16 r) ∧ Below W.heap.size W w' := by
  obtain ⟨g, rfl, h2, h3⟩ := h
  refine set_is g 1 1 [a] rfl (fun x hx => by rw [List.mem_singleton.1 hx]; exact ha) (by decide) _ (fun i x hx => ?_) h2 r hr
  match i, hx with
  | 0, hx => obtain rfl : a = x := by simpa using hx
             exact h3

theorem rows_size : ∀ i : Nat, i < 8 → (rowsY.getD i ⟨#[]⟩).size = 8 := by decide +kernel
theorem rows_val : ∀ i : Nat, i < 8 → ∀ j : Nat, j < 8 → ((((rowsY.getD i ⟨#[]⟩).data.getD j 0).toNat : Int) == 121) = goB 1 (setN [(i : Int) + 1]) ((j : Int) + 1) := by decide +kernel
theorem rows_go (i : Nat) (hi : i < 8) (j : Nat) (hj : j < 8) (t : ByteArray) (ht : rowsY[i]? = some t) :
    ∃ x : Int, (∀ w, (Instr.index 9 (.string t) (.int .i64 (j : Int))).run Try.prog w = .ok (.int .u8 x) w) ∧ (x == 121) = goB 1 (setN [(i : Int) + 1]) ((j : Int) + 1) := by
  have e : rowsY.getD i ⟨#[]⟩ = t := by rw [List.getD_eq_getElem?_getD, ht]; rfl
  have hs := rows_size i hi
  have hv := rows_val i hi j hj
  rw [e] at hs hv
  have hu : Try.prog.underlying 9 = some .string := by kernel_rfl
  refine ⟨((t.data.getD j 0).toNat : Int), fun w => ?_, hv⟩
  rw [run_index_string w _ t .i64 (j : Int) hu]
  have hjs : j < t.size := by omega
  have hjd : j < t.data.size := hjs
  rw [dif_pos (by omega)]
  have e2 : t[((j : Int)).toNat]'(by simpa using hjs) = t.data.getD j 0 := by
    rw [Array.getD, dif_pos hjd]
    rfl
  rw [e2]


theorem pairs_cells (w : World) : ∀ (k : Nat) (x y : Int), pairsN[k]? = some (x, y) → (w.alloc (.cells #[.int .u8 0, .int .u8 1, .int .u8 3, .int .u8 1, .int .u8 1, .int .u8 0, .int .u8 1, .int .u8 9, .int .u8 2, .int .u8 3, .int .u8 2, .int .u8 0, .int .u8 255, .int .u8 255] 27)).cell? ⟨w.heap.size, k * 2, none⟩ = some (.int .u8 x) ∧ (w.alloc (.cells #[.int .u8 0, .int .u8 1, .int .u8 3, .int .u8 1, .int .u8 1, .int .u8 0, .int .u8 1, .int .u8 9, .int .u8 2, .int .u8 3, .int .u8 2, .int .u8 0, .int .u8 255, .int .u8 255] 27)).cell? ⟨w.heap.size, k * 2 + 1, none⟩ = some (.int .u8 y) := by
  intro k x y hk
  have hk7 : k < 7 := (List.getElem?_eq_some_iff.1 hk).1
  have h : k = 0 ∨ k = 1 ∨ k = 2 ∨ k = 3 ∨ k = 4 ∨ k = 5 ∨ k = 6 := by omega
  rcases h with rfl | rfl | rfl | rfl | rfl | rfl | rfl <;>
    · simp [pairsN] at hk
      obtain ⟨rfl, rfl⟩ := hk
      constructor <;> simp
theorem pairs_no : ∀ k : Nat, k < 7 → ∀ p : Int × Int, pairsN[k]? = some p → (decide (0 ≤ p.1 ∧ p.1 < 256 ∧ 0 ≤ p.2 ∧ p.2 < 256) && !mayB p.1 p.2 && !goB p.1 0 p.2 && !covB p.1 65535 p.2) = true := by
  intro k hk p hp
  have h : k = 0 ∨ k = 1 ∨ k = 2 ∨ k = 3 ∨ k = 4 ∨ k = 5 ∨ k = 6 := by omega
  rcases h with rfl | rfl | rfl | rfl | rfl | rfl | rfl <;>
    · simp only [pairsN, List.getElem?_cons_zero, List.getElem?_cons_succ, Option.some.injEq] at hp
      subst hp
      decide +kernel
theorem pairs_none (k : Nat) (x y : Int) (h : pairsN[k]? = some (x, y)) : U8 x ∧ U8 y ∧ mayB x y = false ∧ goB x 0 y = false ∧ covB x 65535 y = false := by
  have := pairs_no k (List.getElem?_eq_some_iff.1 h).1 _ h
  simp only [Bool.and_eq_true, decide_eq_true_eq, Bool.not_eq_true'] at this
  obtain ⟨⟨⟨h1, h2⟩, h3⟩, h4⟩ := this
  exact ⟨⟨h1.1, h1.2.1⟩, ⟨h1.2.2.1, h1.2.2.2⟩, h2, h3, h4⟩

set_option maxRecDepth 100000 in
set_option maxHeartbeats 4000000 in
theorem names_law (w : World) :
    Calls Try.prog 3 #[] w fun e w' => e = .returned (.bool true) ∧ Below w.heap.size w w' := by
  have HB0 : Hid (Below w.heap.size w w) := Lib.hid (Below.refl _ _)
  go_enter Try.func3, Try.ntmps3
  have hcon := works_is w
  go_wp2_with fail
  refine (show Calls Try.prog _ _ _ _ from hcon).mono ?_
  rintro e w1 ⟨rfl, hb1⟩
  have HB1 : Hid (Below w.heap.size w w1) := Lib.hid (below_tr HB0.out hb1)
  clear hcon hb1 HB0
  go_wp2_with fail
  obtain ⟨b, hb⟩ : ∃ b, w1.heap.size = b := ⟨_, rfl⟩
  obtain ⟨W, hW⟩ : ∃ W, w1.alloc (.cells ((rowsY.map Value.string).toArray) 9) = W := ⟨_, rfl⟩
  have hal := Below.allocs w1 (.cells ((rowsY.map Value.string).toArray) 9)
  have hsz : W.heap.size = b + 1 := by rw [← hW, ← hb]; simp
  have hcell : ∀ (i : Nat) t, rowsY[i]? = some t → W.cell? ⟨b, i, none⟩ = some (.string t) := by
    intro i t ht
    rw [← hW, ← hb]
    match i, ht with
    | 0, ht => obtain rfl := Option.some.inj ht; simp [rowsY]
    | 1, ht => obtain rfl := Option.some.inj ht; simp [rowsY]
    | 2, ht => obtain rfl := Option.some.inj ht; simp [rowsY]
    | 3, ht => obtain rfl := Option.some.inj ht; simp [rowsY]
    | 4, ht => obtain rfl := Option.some.inj ht; simp [rowsY]
    | 5, ht => obtain rfl := Option.some.inj ht; simp [rowsY]
    | 6, ht => obtain rfl := Option.some.inj ht; simp [rowsY]
    | 7, ht => obtain rfl := Option.some.inj ht; simp [rowsY]
  rw [hW] at hal
  simp only [rowsY, List.map_cons, List.map_nil] at hW
  have HB2 : Hid (Below w.heap.size w W) := Lib.hid (below_tr HB1.out hal)
  rw [show w1.alloc _ = W from hW, hb]
  have HCL := Lib.hid hcell
  have HSZ := Lib.hid hsz
  clear hal hcell hsz HB1 hb hW
  go_loopg [2, 3, 13, 14, 15, 16, 17, 18, 19, 20, 21, 22, 23, 24, 25, 26, 27, 28, 29, 30, 31, 32, 33, 34, 35, 36, 37] 8 (fun gg s2 s3 s13 s14 s15 s16 s17 s18 s19 s20 s21 s22 s23 s24 s25 s26 s27 s28 s29 s30 s31 s32 s33 s34 s35 s36 s37 wr => ∃ i : Nat, s2 = .int .i64 ((i : Int) + 1) ∧ i ≤ 8 ∧ 8 - i ≤ gg ∧ Hid (Below w.heap.size w wr) ∧ Hid (Below W.heap.size W wr))
  case atStart => exact ⟨0, rfl, by omega, by omega, HB2, Lib.hid (Below.refl _ _)⟩
  case round =>
    obtain ⟨i, rfl, hi, hgg, BW, CW⟩ := hrel
    by_cases hi9 : i < 8
    · have hlt : (i : Int) + 1 ≤ 8 := by omega
      obtain ⟨wo, rfl⟩ : ∃ wo, wo = wr := ⟨_, rfl⟩
      go_wp2_with fail
      go_loopg [3, 17, 18, 19, 20, 21, 22, 23, 24, 25, 26, 27, 28, 29, 30, 31, 32, 33, 34, 35, 36, 37] 8 (fun gg s3 s17 s18 s19 s20 s21 s22 s23 s24 s25 s26 s27 s28 s29 s30 s31 s32 s33 s34 s35 s36 s37 wr => ∃ j : Nat, s3 = .int .i64 ((j : Int) + 1) ∧ j ≤ 8 ∧ 8 - j ≤ gg ∧ Hid (Below w.heap.size w wr) ∧ Hid (Below W.heap.size W wr))
      case atStart => exact ⟨0, rfl, by omega, by omega, BW, CW⟩
      case round =>
        obtain ⟨j, rfl, hj, hgj, BW2, CW2⟩ := hrel
        by_cases hj9 : j < 8
        · have hlt2 : (j : Int) + 1 ≤ 8 := by omega
          obtain ⟨s, hs⟩ : ∃ s, setN [(i : Int) + 1] = s := ⟨_, rfl⟩
          obtain ⟨g, hg⟩ : ∃ g, goB 1 s ((j : Int) + 1) = g := ⟨_, rfl⟩
          have hi8 : U8 ((i : Int) + 1) := by unfold U8; omega
          have hj8 : U8 ((j : Int) + 1) := by unfold U8; omega
          have hsu : U16 s := by rw [← hs]; exact single_u16 hi8
          obtain ⟨t, ht⟩ : ∃ t, rowsY[i]? = some t := ⟨rowsY[i]'(by show i < 8; exact hi9), by simp⟩
          obtain ⟨x, hx, hxg⟩ := rows_go i hi9 j hj9 t ht
          rw [hs, hg] at hxg
          have HI8 := Lib.hid hi8
          have HS := Lib.hid hs
          have HG := Lib.hid fun w => go_is 1 s ((j : Int) + 1) hj8 hsu w g hg
          have HC : Hid (∀ W', Below wr.heap.size wr W' → W'.cell? ⟨b, i, none⟩ = some (.string t)) := Lib.hid (fun W' hb' => by
            have hb0 : b < W.heap.size := by rw [HSZ.out]; omega
            have hb1 : b < wr.heap.size := Nat.lt_of_lt_of_le hb0 CW2.out.size
            rw [hb'.cell hb1, CW2.out.cell hb0]
            exact HCL.out i t ht)
          have HIX := Lib.hid hx
          have HN : Hid (IntKind.u8.wrap ((i : Int) + 1) = (i : Int) + 1 ∧ IntKind.u8.wrap ((j : Int) + 1) = (j : Int) + 1 ∧ IntKind.i64.wrap (i : Int) = (i : Int) ∧ IntKind.i64.wrap (j : Int) = (j : Int) ∧ (i : Int) < 8 ∧ ¬ 8 ≤ i ∧ (x == 121) = g) := Lib.hid ⟨by rw [IntKind.wrap_u8]; omega, by rw [IntKind.wrap_u8]; omega, by rw [IntKind.wrap_i64]; omega, by rw [IntKind.wrap_i64]; omega, by omega, by omega, hxg⟩
          have mixed : Try.prog.follows Departure.mixedOrders = true := by kernel_rfl
          clear hs hg hi8 hj8 hsu ht hx hxg
          go_upto_region 10 with (fail)
          have hdr := below_drw wr
          try simp only [List.append_eq, List.cons_append, List.nil_append]
          refine RX.wp_region_plan (fun w w' => Below w.heap.size w w') [.it (.int .i64 ((i : Int) + 1)), .it (.int .u8 ((i : Int) + 1)), .of (Arg1 ((i : Int) + 1)), .it (.int .u16 s), .it (.int .i64 ((j : Int) + 1)), .it (.int .u8 ((j : Int) + 1)), .it (.bool g), .it (.slice (some ⟨b, 0, none⟩) 8 8), .it (.int .i64 ((i : Int) + 1)), .it (.int .i64 (i : Int)), .it (.pointer (some ⟨b, i, none⟩)), .it (.string t), .it (.int .i64 ((j : Int) + 1)), .it (.int .i64 (j : Int)), .it (.int .u8 x), .it (.bool g), .it (.bool false)] (by kernel_rfl) (by kernel_rfl) (fun _ => Below.refl _ _) (fun _ _ _ => below_tr) ?_
          refine RX.seqP_value (fun _ => Below.refl _ _) _ (by first | rfl | simp) (fun w' hw' hctx => by (go_simp); (try first | with_reducible rfl | simp)) ?_
          simp only [Act.put, List.setIfInBounds_toArray, List.set_cons_zero, List.set_cons_succ]
          refine RX.seqP_value (fun _ => Below.refl _ _) _ (by first | rfl | simp) (fun w' hw' hctx => ?_) ?_
          · have hwi := HN.out.1
            clear hctx
            go_simp
            try first | with_reducible rfl | simp [*]
          simp only [Act.put, List.setIfInBounds_toArray, List.set_cons_zero, List.set_cons_succ]
          refine RX.seqP_make (Arg1 ((i : Int) + 1)) (fun w w' v hb h => h.below hb) (by first | rfl | simp) (fun w' hw' hctx => ?_) (fun u2 => ?_)
          · exact ⟨.slice (some ⟨w'.heap.size, 0, none⟩) 1 1, w'.alloc (.cells #[.int .u8 ((i : Int) + 1)] 5), by go_simp, Below.allocs _ _, arg1_new _ w'⟩
          simp only [Act.put, List.setIfInBounds_toArray, List.set_cons_zero, List.set_cons_succ]
          refine RX.seqP_call (11) #[u2] (.int .u16 s) (by first | rfl | simp) (fun w' hw' hctx => ?_) (fun w' hw' hctx => arg1_set HI8.out HS.out w' _ hctx.1) ?_
          · go_simp
          simp only [Act.put, List.setIfInBounds_toArray, List.set_cons_zero, List.set_cons_succ]
          refine RX.seqP_value (fun _ => Below.refl _ _) _ (by first | rfl | simp) (fun w' hw' hctx => by (go_simp); (try first | with_reducible rfl | simp)) ?_
          simp only [Act.put, List.setIfInBounds_toArray, List.set_cons_zero, List.set_cons_succ]
          refine RX.seqP_value (fun _ => Below.refl _ _) _ (by first | rfl | simp) (fun w' hw' hctx => ?_) ?_
          · have hwj := HN.out.2.1
            clear hctx
            go_simp
            try first | with_reducible rfl | simp [*]
          simp only [Act.put, List.setIfInBounds_toArray, List.set_cons_zero, List.set_cons_succ]
          refine RX.seqP_call (10) #[.int .u8 1, .int .u16 s, .int .u8 ((j : Int) + 1)] (.bool g) (by first | rfl | simp) (fun w' hw' hctx => ?_) (fun w' hw' hctx => HG.out w') ?_
          · go_simp
          simp only [Act.put, List.setIfInBounds_toArray, List.set_cons_zero, List.set_cons_succ]
          refine RX.seqP_value (fun _ => Below.refl _ _) _ (by first | rfl | simp) (fun w' hw' hctx => by (go_simp); (try first | with_reducible rfl | simp)) ?_
          simp only [Act.put, List.setIfInBounds_toArray, List.set_cons_zero, List.set_cons_succ]
          refine RX.seqP_value (fun _ => Below.refl _ _) _ (by first | rfl | simp) (fun w' hw' hctx => by (go_simp); (try first | with_reducible rfl | simp)) ?_
          simp only [Act.put, List.setIfInBounds_toArray, List.set_cons_zero, List.set_cons_succ]
          refine RX.seqP_value (fun _ => Below.refl _ _) _ (by first | rfl | simp) (fun w' hw' hctx => ?_) ?_
          · have hsi := HN.out.2.2.1
            clear hctx
            go_simp
            try first | with_reducible rfl | simp [*]
          simp only [Act.put, List.setIfInBounds_toArray, List.set_cons_zero, List.set_cons_succ]
          refine RX.seqP_value (fun _ => Below.refl _ _) _ (by first | rfl | simp) (fun w' hw' hctx => ?_) ?_
          · have hlt1 := HN.out.2.2.2.2.1
            have hlt2 := HN.out.2.2.2.2.2.1
            clear hctx
            go_simp
            try first | with_reducible rfl | simp [*]
          simp only [Act.put, List.setIfInBounds_toArray, List.set_cons_zero, List.set_cons_succ]
          refine RX.seqP_value (fun _ => Below.refl _ _) _ (by first | rfl | simp) (fun w' hw' hctx => ?_) ?_
          · have hc := HC.out w' (below_tr hdr hw')
            clear hctx
            go_simp
            try first | with_reducible rfl | simp [*]
          simp only [Act.put, List.setIfInBounds_toArray, List.set_cons_zero, List.set_cons_succ]
          refine RX.seqP_value (fun _ => Below.refl _ _) _ (by first | rfl | simp) (fun w' hw' hctx => by (go_simp); (try first | with_reducible rfl | simp)) ?_
          simp only [Act.put, List.setIfInBounds_toArray, List.set_cons_zero, List.set_cons_succ]
          refine RX.seqP_value (fun _ => Below.refl _ _) _ (by first | rfl | simp) (fun w' hw' hctx => ?_) ?_
          · have hsj := HN.out.2.2.2.1
            clear hctx
            go_simp
            try first | with_reducible rfl | simp [*]
          simp only [Act.put, List.setIfInBounds_toArray, List.set_cons_zero, List.set_cons_succ]
          refine RX.seqP_value (fun _ => Below.refl _ _) _ (by first | rfl | simp) (fun w' hw' hctx => ?_) ?_
          · have hx := HIX.out w'
            clear hctx
            go_simp
            try first | with_reducible rfl | simp [*]
          simp only [Act.put, List.setIfInBounds_toArray, List.set_cons_zero, List.set_cons_succ]
          refine RX.seqP_value (fun _ => Below.refl _ _) _ (by first | rfl | simp) (fun w' hw' hctx => ?_) ?_
          · have hx := HN.out.2.2.2.2.2.2
            clear hctx
            go_simp
            try first | with_reducible rfl | simp [*]
          simp only [Act.put, List.setIfInBounds_toArray, List.set_cons_zero, List.set_cons_succ]
          refine RX.seqP_value (fun _ => Below.refl _ _) _ (by first | rfl | simp) (fun w' hw' hctx => by (go_simp); (try first | with_reducible rfl | simp)) ?_
          simp only [Act.put, List.setIfInBounds_toArray, List.set_cons_zero, List.set_cons_succ]
          refine RX.seqP_nil (fun w2 hR hctx _ => ?_)
          have hv2 := below_tr hdr hR
          clear hctx hR
          have HV := Lib.hid (below_tr BW2.out hv2)
          have CV := Lib.hid (below_tr CW2.out hv2)
          clear hv2 hdr
          go_wp2_with fail
          go_roundg (8 - (j + 1))
          case measure => omega
          case rel => exact ⟨j + 1, by go_num, by omega, Nat.le_refl _, HV, CV⟩
        · have hlt2 : ¬ (j : Int) + 1 ≤ 8 := by omega
          go_wp2_with fail
          go_roundg (8 - (i + 1))
          case measure => omega
          case rel => exact ⟨i + 1, by go_num, by omega, Nat.le_refl _, BW2, CW2⟩
    · have hlt : ¬ (i : Int) + 1 ≤ 8 := by omega
      have HB5 := BW
      clear hlt
      have hcon := set1_is (1) wr (by unfold U8; omega) (2) (by decide +kernel)
      go_wp2_with fail
      refine (show Calls Try.prog _ _ _ _ from hcon).mono ?_
      rintro e w6 ⟨rfl, hb6⟩
      have HB6 : Hid (Below w.heap.size w w6) := Lib.hid (below_tr HB5.out hb6)
      clear hcon hb6 HB5
      have hcon := go_is (2) (2) (1) (by unfold U8; omega) (by unfold U16; omega) w6 true (by decide +kernel)
      go_wp2_with fail
      refine (show Calls Try.prog _ _ _ _ from hcon).mono ?_
      rintro e w7 ⟨rfl, hb7⟩
      have HB7 : Hid (Below w.heap.size w w7) := Lib.hid (below_tr HB6.out hb7)
      clear hcon hb7 HB6
      have hcon := set1_is (1) w7 (by unfold U8; omega) (2) (by decide +kernel)
      go_wp2_with fail
      refine (show Calls Try.prog _ _ _ _ from hcon).mono ?_
      rintro e w8 ⟨rfl, hb8⟩
      have HB8 : Hid (Below w.heap.size w w8) := Lib.hid (below_tr HB7.out hb8)
      clear hcon hb8 HB7
      have hcon := go_is (2) (2) (2) (by unfold U8; omega) (by unfold U16; omega) w8 false (by decide +kernel)
      go_wp2_with fail
      refine (show Calls Try.prog _ _ _ _ from hcon).mono ?_
      rintro e w9 ⟨rfl, hb9⟩
      have HB9 : Hid (Below w.heap.size w w9) := Lib.hid (below_tr HB8.out hb9)
      clear hcon hb9 HB8
      have hcon := set1_is (2) w9 (by unfold U8; omega) (4) (by decide +kernel)
      go_wp2_with fail
      refine (show Calls Try.prog _ _ _ _ from hcon).mono ?_
      rintro e w10 ⟨rfl, hb10⟩
      have HB10 : Hid (Below w.heap.size w w10) := Lib.hid (below_tr HB9.out hb10)
      clear hcon hb10 HB9
      have hcon := go_is (2) (4) (1) (by unfold U8; omega) (by unfold U16; omega) w10 false (by decide +kernel)
      go_wp2_with fail
      refine (show Calls Try.prog _ _ _ _ from hcon).mono ?_
      rintro e w11 ⟨rfl, hb11⟩
      have HB11 : Hid (Below w.heap.size w w11) := Lib.hid (below_tr HB10.out hb11)
      clear hcon hb11 HB10
      have hcon := set1_is (2) w11 (by unfold U8; omega) (4) (by decide +kernel)
      go_wp2_with fail
      refine (show Calls Try.prog _ _ _ _ from hcon).mono ?_
      rintro e w12 ⟨rfl, hb12⟩
      have HB12 : Hid (Below w.heap.size w w12) := Lib.hid (below_tr HB11.out hb12)
      clear hcon hb12 HB11
      have hcon := go_is (2) (4) (2) (by unfold U8; omega) (by unfold U16; omega) w12 false (by decide +kernel)
      go_wp2_with fail
      refine (show Calls Try.prog _ _ _ _ from hcon).mono ?_
      rintro e w13 ⟨rfl, hb13⟩
      have HB13 : Hid (Below w.heap.size w w13) := Lib.hid (below_tr HB12.out hb13)
      clear hcon hb13 HB12
      have hcon := set2_is (3) (8) w13 (by unfold U8; omega) (by unfold U8; omega) (264) (by decide +kernel)
      go_wp2_with fail
      refine (show Calls Try.prog _ _ _ _ from hcon).mono ?_
      rintro e w14 ⟨rfl, hb14⟩
      have HB14 : Hid (Below w.heap.size w w14) := Lib.hid (below_tr HB13.out hb14)
      clear hcon hb14 HB13
      have hcon := go_is (2) (264) (2) (by unfold U8; omega) (by unfold U16; omega) w14 true (by decide +kernel)
      go_wp2_with fail
      refine (show Calls Try.prog _ _ _ _ from hcon).mono ?_
      rintro e w15 ⟨rfl, hb15⟩
      have HB15 : Hid (Below w.heap.size w w15) := Lib.hid (below_tr HB14.out hb15)
      clear hcon hb15 HB14
      have hcon := set2_is (3) (8) w15 (by unfold U8; omega) (by unfold U8; omega) (264) (by decide +kernel)
      go_wp2_with fail
      refine (show Calls Try.prog _ _ _ _ from hcon).mono ?_
      rintro e w16 ⟨rfl, hb16⟩
      have HB16 : Hid (Below w.heap.size w w16) := Lib.hid (below_tr HB15.out hb16)
      clear hcon hb16 HB15
      have hcon := covers_is (2) (264) (1) (by unfold U8; omega) (by unfold U16; omega) w16 false (by decide +kernel)
      go_wp2_with fail
      refine (show Calls Try.prog _ _ _ _ from hcon).mono ?_
      rintro e w17 ⟨rfl, hb17⟩
      have HB17 : Hid (Below w.heap.size w w17) := Lib.hid (below_tr HB16.out hb17)
      clear hcon hb17 HB16
      have hcon := go_is (1) (33281) (8) (by unfold U8; omega) (by unfold U16; omega) w17 true (by decide +kernel)
      go_wp2_with fail
      refine (show Calls Try.prog _ _ _ _ from hcon).mono ?_
      rintro e w18 ⟨rfl, hb18⟩
      have HB18 : Hid (Below w.heap.size w w18) := Lib.hid (below_tr HB17.out hb18)
      clear hcon hb18 HB17
      go_wp2_with fail
      obtain ⟨b2, hb2⟩ : ∃ n, w18.heap.size = n := ⟨_, rfl⟩
      obtain ⟨V, hV⟩ : ∃ V, w18.alloc (.cells #[.int .u8 0, .int .u8 1, .int .u8 3, .int .u8 1, .int .u8 1, .int .u8 0, .int .u8 1, .int .u8 9, .int .u8 2, .int .u8 3, .int .u8 2, .int .u8 0, .int .u8 255, .int .u8 255] 27) = V := ⟨_, rfl⟩
      have hal := Below.allocs w18 (.cells #[.int .u8 0, .int .u8 1, .int .u8 3, .int .u8 1, .int .u8 1, .int .u8 0, .int .u8 1, .int .u8 9, .int .u8 2, .int .u8 3, .int .u8 2, .int .u8 0, .int .u8 255, .int .u8 255] 27)
      have hsz2 : V.heap.size = b2 + 1 := by rw [← hV, ← hb2]; simp
      have hcell2 := pairs_cells w18
      rw [hV, hb2] at hcell2
      rw [hV] at hal
      rw [show w18.alloc _ = V from hV, hb2]
      have HB6 : Hid (Below w.heap.size w V) := Lib.hid (below_tr HB18.out hal)
      have HC2 := Lib.hid hcell2
      have HZ2 := Lib.hid hsz2
      clear hal hV hb2 hsz2 hcell2 HB18
      go_loopg [5, 81, 82, 83, 84, 85, 86, 87, 88, 89, 90, 91, 92, 93, 94, 95, 96, 97, 98, 99, 100, 101, 102, 103, 104] 7 (fun gg s5 s81 s82 s83 s84 s85 s86 s87 s88 s89 s90 s91 s92 s93 s94 s95 s96 s97 s98 s99 s100 s101 s102 s103 s104 wv => ∃ k : Nat, s81 = .int .i64 k ∧ k ≤ 7 ∧ 7 - k ≤ gg ∧ Hid (Below w.heap.size w wv) ∧ Hid (Below V.heap.size V wv))
      case atStart => exact ⟨0, rfl, by omega, by omega, HB6, Lib.hid (Below.refl _ _)⟩
      case round =>
        obtain ⟨k, rfl, hk, hgk, BV, CV⟩ := hrel
        by_cases hk7 : k < 7
        · have hlt3 : (k : Int) < 7 := by omega
          have hz3 : ¬ 7 ≤ k := by omega
          obtain ⟨⟨x, y⟩, hxy⟩ : ∃ p, pairsN[k]? = some p := ⟨_, List.getElem?_eq_getElem (show k < pairsN.length from hk7)⟩
          obtain ⟨c0, c1⟩ := HC2.out k x y hxy
          have hb0 : b2 < V.heap.size := by rw [HZ2.out]; omega
          rw [← CV.out.cell hb0] at c0 c1
          obtain ⟨hx8, hy8, f1, f2, f3⟩ := pairs_none k x y hxy
          have H1 := Lib.hid fun w => may_is x y hy8 w false f1
          have H2 := Lib.hid fun w => go_is x 0 y hy8 u16_0 w false f2
          have H3 := Lib.hid fun w => covers_is x 65535 y hy8 ⟨by decide, by decide⟩ w false f3
          clear hx8 hy8 f1 f2 f3 hxy
          go_wp2_with fail
          obtain ⟨n, hn⟩ : ∃ n, wr.heap.size = n := ⟨_, rfl⟩
          obtain ⟨U, hU⟩ : ∃ U, wr.alloc (.cells #[.int .u8 x, .int .u8 y] 27) = U := ⟨_, rfl⟩
          have d0 : U.cell? ⟨n, 0, none⟩ = some (.int .u8 x) := by rw [← hU, ← hn]; simp
          have d1 : U.cell? ⟨n, 1, none⟩ = some (.int .u8 y) := by rw [← hU, ← hn]; simp
          have dl : n < U.heap.size := by rw [← hU, ← hn]; simp
          have hbu : Below wr.heap.size wr U := by rw [← hU]; exact Below.allocs _ _
          have hpn : (some (⟨wr.heap.size, 0, none⟩ : Addr)) = some ⟨n, 0, none⟩ := by rw [hn]
          simp only [hU, hn]
          have HBU : Hid (Below w.heap.size w U) := Lib.hid (below_tr BV.out hbu)
          have HCU : Hid (Below V.heap.size V U) := Lib.hid (below_tr CV.out hbu)
          have HCD := Lib.hid (And.intro d0 (And.intro d1 dl))
          clear hU hn hbu hpn c0 c1 d0 d1 dl
          refine (H1.out U).mono ?_
          rintro e v1 ⟨rfl, hv1⟩
          have d0 : v1.cell? ⟨n, 0, none⟩ = some (.int .u8 x) := by rw [hv1.cell HCD.out.2.2]; exact HCD.out.1
          have d1 : v1.cell? ⟨n, 1, none⟩ = some (.int .u8 y) := by rw [hv1.cell HCD.out.2.2]; exact HCD.out.2.1
          have HV1 := Lib.hid hv1
          clear hv1
          go_wp2_with fail
          refine (H2.out v1).mono ?_
          rintro e v2 ⟨rfl, hv2⟩
          have e0 : v2.cell? ⟨n, 0, none⟩ = some (.int .u8 x) := by rw [hv2.cell (Nat.lt_of_lt_of_le HCD.out.2.2 HV1.out.size)]; exact d0
          have e1 : v2.cell? ⟨n, 1, none⟩ = some (.int .u8 y) := by rw [hv2.cell (Nat.lt_of_lt_of_le HCD.out.2.2 HV1.out.size)]; exact d1
          have HV2 := Lib.hid (below_tr HV1.out hv2)
          clear hv2 d0 d1
          go_wp2_with fail
          refine (H3.out v2).mono ?_
          rintro e v3 ⟨rfl, hv3⟩
          have HV3 := Lib.hid (below_tr HV2.out hv3)
          clear hv3 e0 e1
          go_wp2_with fail
          go_roundg (7 - (k + 1))
          case measure => omega
          case rel => exact ⟨k + 1, by go_num, by omega, Nat.le_refl _, Lib.hid (below_tr HBU.out HV3.out), Lib.hid (below_tr HCU.out HV3.out)⟩
        · have hlt3 : ¬ (k : Int) < 7 := by omega
          have hk77 : k = 7 := by omega
          subst hk77
          have hcon := with_is (5) (16) (by unfold U8; omega) (by unfold U16; omega) wr (5) (by decide +kernel)
          go_wp2_with fail
          refine (show Calls Try.prog _ _ _ _ from hcon).mono ?_
          rintro e w31 ⟨rfl, hb31⟩
          have HB31 : Hid (Below w.heap.size w w31) := Lib.hid (below_tr BV.out hb31)
          clear hcon hb31 BV
          have hcon := with_is (5) (255) (by unfold U8; omega) (by unfold U16; omega) w31 (5) (by decide +kernel)
          go_wp2_with fail
          refine (show Calls Try.prog _ _ _ _ from hcon).mono ?_
          rintro e w32 ⟨rfl, hb32⟩
          have HB32 : Hid (Below w.heap.size w w32) := Lib.hid (below_tr HB31.out hb32)
          clear hcon hb32 HB31
          have hcon := with_is (0) (15) (by unfold U8; omega) (by unfold U16; omega) w32 (32768) (by decide +kernel)
          go_wp2_with fail
          refine (show Calls Try.prog _ _ _ _ from hcon).mono ?_
          rintro e w33 ⟨rfl, hb33⟩
          have HB33 : Hid (Below w.heap.size w w33) := Lib.hid (below_tr HB32.out hb33)
          clear hcon hb33 HB32
          have hcon := with_is (0) (0) (by unfold U8; omega) (by unfold U16; omega) w33 (1) (by decide +kernel)
          go_wp2_with fail
          refine (show Calls Try.prog _ _ _ _ from hcon).mono ?_
          rintro e w34 ⟨rfl, hb34⟩
          have HB34 : Hid (Below w.heap.size w w34) := Lib.hid (below_tr HB33.out hb34)
          clear hcon hb34 HB33
          go_wp2_with fail
          go_ret
          exact ⟨rfl, HB34.out⟩

end Go.Proofs.Ytdncoegdgoacnaa
