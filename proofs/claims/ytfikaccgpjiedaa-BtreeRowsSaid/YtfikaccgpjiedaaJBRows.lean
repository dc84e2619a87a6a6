/-
  The law BtreeRows, walked.
-/
import Derived.Test.YtfikaccgpjiedaaJJ37
namespace Go.Proofs.Ytfikaccgpjiedaa
open Go.RowKit Go.Lib

/-- The steps of an argument, one by one, where they lie. -/
def CssAt (W : World) (a : Option Addr) (css : List CS) : Prop := ∀ (i : Nat) x, css[i]? = some x → ∃ b o, a = some ⟨b, o, none⟩ ∧ b < W.heap.size ∧ W.cell? ⟨b, o + i * 4, none⟩ = some (.int .u8 x.s.kind) ∧ W.cell? ⟨b, o + i * 4 + 1, none⟩ = some (.slice x.a x.s.key.length x.c) ∧ W.cell? ⟨b, o + i * 4 + 2, none⟩ = some (.slice x.a' x.s.to.length x.c') ∧ W.cell? ⟨b, o + i * 4 + 3, none⟩ = some (.int .i64 x.s.id)
theorem CssAt.below {W W' : World} {a : Option Addr} {css : List CS} (h : CssAt W a css) (hb : Below W.heap.size W W') : CssAt W' a css := fun i x hx => by
  obtain ⟨b, o, e, h1, d0, d1, d2, d3⟩ := h i x hx
  exact ⟨b, o, e, Nat.lt_of_lt_of_le h1 hb.size, by rw [hb.cell h1]; exact d0, by rw [hb.cell h1]; exact d1, by rw [hb.cell h1]; exact d2, by rw [hb.cell h1]; exact d3⟩

theorem Lit.step (W : World) (x : CS) : Lit (W.alloc (.cells #[.int .u8 x.s.kind, .slice x.a x.s.key.length x.c, .slice x.a' x.s.to.length x.c', .int .i64 x.s.id] 29)) W.heap.size x.cs :=
  Lit.new W x.cs 29 (csS_one x)

theorem drop_revS {css : List CS} {p : Nat} {x : CS} (hx : css[p]? = some x) : (css.drop p).reverse = (css.drop (p + 1)).reverse ++ [x] := by
  have h1 := (List.getElem?_eq_some_iff.1 hx).1
  have h2 := (List.getElem?_eq_some_iff.1 hx).2
  rw [List.drop_eq_getElem_cons h1, h2, List.reverse_cons]

theorem at_num (x : Int) (n : Nat) (h0 : 0 < n) (h : n ≤ 1000) : ∃ t : Nat, wrap64 ((IntKind.u64.wrap x).tmod (n : Int)) = (t : Int) ∧ t < n := by
  have h0' : 0 ≤ IntKind.u64.wrap x := by simp only [IntKind.wrap, IntKind.signed, IntKind.bits]; simp; omega
  have h1 := Int.tmod_nonneg (n : Int) h0'
  have h2 := Int.tmod_lt_of_pos (IntKind.u64.wrap x) (b := (n : Int)) (by omega)
  generalize (IntKind.u64.wrap x).tmod (n : Int) = r at h1 h2 ⊢
  refine ⟨r.toNat, ?_, by omega⟩
  unfold wrap64
  omega

theorem own_many2 (T : TreeSpec) {w W : World} (hb : Below w.heap.size w W) (a : Option Addr) (c n : Nat) (l : List Stp) (L : List Ent) (hn : l.length = n) (hsm : l.length ≤ 800 ∧ ∀ s ∈ l, s.key.length ≤ 7500 ∧ s.to.length ≤ 7500) (hL : allS ltE (l.map Stp.en) = L) (h1 : SlSt W a c l) :
    Calls Try.prog 19 #[.slice a n c] W fun e w' => ∃ g F, e = .returned (nodeV g) ∧ Below W.heap.size W w' ∧ Own1 T w g L F w' := by
  subst hL
  refine (many_is T a c n l hn hsm W h1).mono ?_
  rintro e w' ⟨g, F, rfl, q1, q2, q3⟩
  exact ⟨g, F, rfl, q3, ⟨q1, fun k hk => Nat.le_trans hb.size (q2 k hk)⟩⟩

theorem flatS_take : ∀ (l : List CS) (i : Nat), (flatS l).take (i * 4) = flatS (l.take i)
  | [], i => by simp [flatS]
  | x :: l, 0 => by simp [flatS]
  | x :: l, i + 1 => by
      rw [flatS_cons, List.take_succ_cons, flatS_cons, ← flatS_take l i, show (i + 1) * 4 = x.cs.length + i * 4 by simp [CS.cs]; omega, List.take_length_add_append]
theorem flatS_drop : ∀ (l : List CS) (i : Nat), (flatS l).drop (i * 4) = flatS (l.drop i)
  | [], i => by simp [flatS]
  | x :: l, 0 => by simp
  | x :: l, i + 1 => by
      rw [flatS_cons, List.drop_succ_cons, ← flatS_drop l i, show (i + 1) * 4 = x.cs.length + i * 4 by simp [CS.cs]; omega, List.drop_length_add_append]
theorem flatS_set {l : List CS} {i : Nat} {x : CS} (hi : i < l.length) : splice (flatS l) (i * 4) x.cs = flatS (l.set i x) := by
  have e : l.set i x = l.take i ++ x :: l.drop (i + 1) := List.set_eq_take_append_cons_drop .. |>.trans (by rw [if_pos hi])
  unfold splice
  rw [flatS_take, show i * 4 + x.cs.length = (i + 1) * 4 by simp [CS.cs]; omega, flatS_drop, e, flatS_app, flatS_cons, List.append_assoc]

/-- Two steps of a row change places. -/
theorem swap_row {W : World} {b o n c : Nat} {css : List CS} (h : RowS 4 W (some ⟨b, o, none⟩) n c (flatS css)) {i j : Nat} {x z : CS} (hx : css[i]? = some x) (hz : css[j]? = some z) :
    RowS 4 (((W.setCells b (o + i * 4) z.cs).setCells b (o + j * 4) x.cs).drew) (some ⟨b, o, none⟩) n c (flatS ((css.set i z).set j x)) ∧ TouchC (SlF 4 (some ⟨b, o, none⟩) c) W (((W.setCells b (o + i * 4) z.cs).setCells b (o + j * 4) x.cs).drew) := by
  have hi := (List.getElem?_eq_some_iff.1 hx).1
  have hj := (List.getElem?_eq_some_iff.1 hz).1
  have hl := h.len
  rw [flatS_len] at hl
  have l1 : z.cs.length = 4 := rfl
  have l2 : x.cs.length = 4 := rfl
  obtain ⟨h1, t1⟩ := h.splice (j := i * 4) (news := z.cs) (by omega) (csS_one z)
  rw [flatS_set hi] at h1
  obtain ⟨h2, t2⟩ := h1.splice (j := j * 4) (news := x.cs) (by omega) (csS_one x)
  rw [flatS_set (by rw [List.length_set]; exact hj)] at h2
  have hb := below_drw ((W.setCells b (o + i * 4) z.cs).setCells b (o + j * 4) x.cs)
  exact ⟨h2.below hb, (t1.trans t2 (fun _ _ _ h => h)).trans (TouchC.of_below hb) (fun _ _ _ h => h)⟩

theorem swap_perm {css : List CS} {i j : Nat} {x z : CS} (hx : css[i]? = some x) (hz : css[j]? = some z) : ((css.set i z).set j x).Perm css := by
  obtain ⟨hi, rfl⟩ := List.getElem?_eq_some_iff.1 hx
  obtain ⟨hj, rfl⟩ := List.getElem?_eq_some_iff.1 hz
  exact List.set_set_perm hi hj

theorem mod_num (i n : Nat) (h0 : 0 < n) : ∃ t : Nat, (i : Int).tmod (n : Int) = (t : Int) ∧ t < n :=
  ⟨i % n, by rw [Int.tmod_eq_emod_of_nonneg (by omega)]; omega, Nat.mod_lt i h0⟩

set_option maxRecDepth 100000 in
set_option maxHeartbeats 4000000 in
theorem rows_large (T : TreeSpec) (a0 : Option Addr) (c0 n0 : Nat) (l0 : List Stp) (a1 : Option Addr) (c1 n1 : Nat) (l1 : List Int) (hn0 : l0.length = n0) (hn1 : l1.length = n1) (w : World) (hs0 : SlSt w a0 c0 l0) (hs1 : SlI w a1 c1 l1) (hz0 : largeS l0 = true) :
    Calls Try.prog 5 #[.slice a0 n0 c0, .slice a1 n1 c1] w fun e w' => e = .returned (.bool true) ∧ Below w.heap.size w w' := by
  have B1 : Hid (Below w.heap.size w w) := Lib.hid (Below.refl _ _)
  have HS0 := Lib.hid hs0
  have HS1 := Lib.hid hs1
  have HN0 := Lib.hid hn0
  have HN1 := Lib.hid hn1
  have HZ0 := Lib.hid hz0
  clear hs0 hs1 hn0 hn1 hz0
  go_enter Try.func5, Try.ntmps5
  have hcon := works_is T w
  go_wp2_with fail
  refine (show Calls Try.prog _ _ _ _ from hcon).mono ?_
  rintro e w1 ⟨rfl, hb1⟩
  have B2 := Lib.hid (below_tr B1.out hb1)
  clear B1
  clear hcon hb1
  have hcon := large_is a0 c0 n0 l0 true HN0.out HZ0.out _ (HS0.out.below B2.out)
  go_wp2_with fail
  refine (show Calls Try.prog _ _ _ _ from hcon).mono ?_
  rintro e w2 ⟨rfl, hb2⟩
  have B3 := Lib.hid (below_tr B2.out hb2)
  clear B2
  clear hcon hb2
  have hcon := works_is T w2
  go_wp2_with fail
  refine (show Calls Try.prog _ _ _ _ from hcon).mono ?_
  rintro e w3 ⟨rfl, hb3⟩
  have B4 := Lib.hid (below_tr B3.out hb3)
  clear B3
  clear hcon hb3
  go_wp2_with fail
  go_ret
  exact ⟨rfl, B4.out⟩

set_option maxRecDepth 100000 in
set_option maxHeartbeats 4000000 in
theorem rows_wide (T : TreeSpec) (a0 : Option Addr) (c0 n0 : Nat) (l0 : List Stp) (a1 : Option Addr) (c1 n1 : Nat) (l1 : List Int) (hn0 : l0.length = n0) (hn1 : l1.length = n1) (w : World) (hs0 : SlSt w a0 c0 l0) (hs1 : SlI w a1 c1 l1) (hz0 : largeS l0 = false) (h1 : 1000 < n1) :
    Calls Try.prog 5 #[.slice a0 n0 c0, .slice a1 n1 c1] w fun e w' => e = .returned (.bool true) ∧ Below w.heap.size w w' := by
  have h1z : (1000 : Int) < (n1 : Int) := by omega
  have B1 : Hid (Below w.heap.size w w) := Lib.hid (Below.refl _ _)
  have HS0 := Lib.hid hs0
  have HS1 := Lib.hid hs1
  have HN0 := Lib.hid hn0
  have HN1 := Lib.hid hn1
  have HZ0 := Lib.hid hz0
  clear hs0 hs1 hn0 hn1 hz0
  go_enter Try.func5, Try.ntmps5
  have hcon := works_is T w
  go_wp2_with fail
  refine (show Calls Try.prog _ _ _ _ from hcon).mono ?_
  rintro e w1 ⟨rfl, hb1⟩
  have B2 := Lib.hid (below_tr B1.out hb1)
  clear B1
  clear hcon hb1
  have hcon := large_is a0 c0 n0 l0 false HN0.out HZ0.out _ (HS0.out.below B2.out)
  go_wp2_with fail
  refine (show Calls Try.prog _ _ _ _ from hcon).mono ?_
  rintro e w2 ⟨rfl, hb2⟩
  have B3 := Lib.hid (below_tr B2.out hb2)
  clear B2
  clear hcon hb2
  have hcon := works_is T w2
  go_wp2_with fail
  refine (show Calls Try.prog _ _ _ _ from hcon).mono ?_
  rintro e w3 ⟨rfl, hb3⟩
  have B4 := Lib.hid (below_tr B3.out hb3)
  clear B3
  clear hcon hb3
  go_wp2_with fail
  go_ret
  exact ⟨rfl, B4.out⟩

set_option maxRecDepth 100000 in
set_option maxHeartbeats 4000000 in
theorem rows_main (T : TreeSpec) (a0 : Option Addr) (c0 n0 : Nat) (l0 : List Stp) (a1 : Option Addr) (c1 n1 : Nat) (l1 : List Int) (hn0 : l0.length = n0) (hn1 : l1.length = n1) (w : World) (hs0 : SlSt w a0 c0 l0) (hs1 : SlI w a1 c1 l1) (hz0 : largeS l0 = false) (h1 : ¬ 1000 < n1) :
    Calls Try.prog 5 #[.slice a0 n0 c0, .slice a1 n1 c1] w fun e w' => e = .returned (.bool true) ∧ Below w.heap.size w w' := by
  have h1z : ¬ (1000 : Int) < (n1 : Int) := by omega
  obtain ⟨L, hL⟩ : ∃ L, allS ltE (l0.map Stp.en) = L := ⟨_, rfl⟩
  obtain ⟨m, hm⟩ : ∃ m, L.length = m := ⟨_, rfl⟩
  have hL8 : m ≤ 800 := by
    have h1 := length_allS (l0.map Stp.en)
    have h2 := (small_steps hz0).1
    rw [hL, List.length_map] at h1
    omega
  have hsm := small_steps hz0
  have hn08 : n0 ≤ 800 := by rw [← hn0]; exact hsm.1
  obtain ⟨css, hcs, hck, hcm⟩ := hs0.css
  have hcl : css.length = n0 := by rw [← hn0, ← hcs]; exact (List.length_map _).symm
  have hcw : ∀ x ∈ css, (0 ≤ x.s.kind ∧ x.s.kind ≤ 255) ∧ I64 x.s.id := fun x hx => hs0.wf x.s (by rw [← hcs]; exact List.mem_map.2 ⟨x, hx, rfl⟩)
  have HCM : Hid (CssAt w a0 css) := Lib.hid hcm
  clear hcm
  have B1 : Hid (Below w.heap.size w w) := Lib.hid (Below.refl _ _)
  have HS0 := Lib.hid hs0
  have HS1 := Lib.hid hs1
  have HN0 := Lib.hid hn0
  have HN1 := Lib.hid hn1
  have HZ0 := Lib.hid hz0
  have HL := Lib.hid hL
  have HM := Lib.hid hm
  have HSM := Lib.hid hsm
  have HCS := Lib.hid hcs
  have HCK := Lib.hid hck
  have HCL := Lib.hid hcl
  have HCW := Lib.hid hcw
  clear hs0 hs1 hn0 hn1 hz0 hL hm hsm hcs hck hcl hcw
  go_enter Try.func5, Try.ntmps5
  have hcon := works_is T w
  go_wp2_with fail
  refine (show Calls Try.prog _ _ _ _ from hcon).mono ?_
  rintro e w1 ⟨rfl, hb1⟩
  have B2 := Lib.hid (below_tr B1.out hb1)
  clear B1
  clear hcon hb1
  have hcon := large_is a0 c0 n0 l0 false HN0.out HZ0.out _ (HS0.out.below B2.out)
  go_wp2_with fail
  refine (show Calls Try.prog _ _ _ _ from hcon).mono ?_
  rintro e w2 ⟨rfl, hb2⟩
  have B3 := Lib.hid (below_tr B2.out hb2)
  clear B2
  clear hcon hb2
  have hcon := own_many T B3.out a0 c0 n0 l0 L HN0.out HZ0.out HL.out (HS0.out.below B3.out)
  go_wp2_with fail
  refine (show Calls Try.prog _ _ _ _ from hcon).mono ?_
  rintro e w3 ⟨g, F, rfl, hb3, hO, hF⟩
  have B4 := Lib.hid (below_tr B3.out hb3)
  clear B3
  clear hcon hb3
  have t_n3 := Lib.hid hO
  clear hO
  clear hF
  unfold nodeV
  have HSRT := Lib.hid (T.srt (t_n3.out).is)
  have HFW := Lib.hid (T.lt (t_n3.out).is)
  have HFAR := Lib.hid (t_n3.out).far
  have S_r5 := Lib.hid (HS0.out.below B4.out)
  have I_r5 := Lib.hid (HS1.out.below B4.out)
  have M_r5 := Lib.hid (HCM.out.below B4.out)
  have t_r5 := Lib.hid (t_n3.out)
  have HB5 := B4
  clear HS0 HS1 HCM t_n3 B4
  have B6 : Hid (Below w3.heap.size w3 w3) := Lib.hid (Below.refl _ _)
  go_wp2_with fail
  go_loopg [6, 7] n0 (fun gg s6 s7 wr => ∃ (q k : Nat) (j : Int) (ab : Option Addr) (cb : Nat), s7 = .int .i64 j ∧ j = (q : Int) - 1 ∧ s6 = .slice ab k cb ∧ q + k = n0 ∧ q ≤ gg ∧ Hid (RowS 4 wr ab k cb (flatS (css.drop q).reverse)) ∧ Hid (∀ b p, SlF 4 ab cb b p → w3.heap.size ≤ b) ∧ Hid (Below w3.heap.size w3 wr))
  case atStart => exact ⟨n0, 0, _, none, 0, rfl, by go_num, rfl, by omega, Nat.le_refl _, Lib.hid (by rw [List.drop_eq_nil_of_le (by rw [HCL.out]; exact Nat.le_refl _)]; exact RowS.nil _ _), Lib.hid (fun b p h => absurd h (slf_nil _ _ _ _)), Lib.hid (Below.refl _ _)⟩
  case round =>
    obtain ⟨q, k, j, ab, cb, rfl, hj, rfl, hqk, hgg, HROW, HNEW, BW⟩ := hrel
    rcases Nat.eq_zero_or_pos q with hq | hq
    · subst hq
      obtain rfl : j = -1 := by omega
      obtain rfl : k = n0 := by omega
      clear hj hqk hgg
      obtain ⟨wv, rfl⟩ : ∃ wv, wv = wr := ⟨_, rfl⟩
      have HRW : Hid (RowS 4 wv ab k cb (flatS css.reverse)) := Lib.hid (by have := HROW.out; rwa [List.drop_zero] at this)
      clear HROW
      go_wp2_with fail
      go_loopg [8] n1 (fun gg s8 wr => ∃ (i : Nat) (cs2 : List CS), s8 = .int .i64 i ∧ i ≤ n1 ∧ n1 - i ≤ gg ∧ Hid (cs2.Perm css) ∧ Hid (RowS 4 wr ab k cb (flatS cs2)) ∧ Hid (Below w3.heap.size w3 wr))
      case atStart => exact ⟨0, css.reverse, rfl, Nat.zero_le _, by omega, Lib.hid (List.reverse_perm css), HRW, BW⟩
      case round =>
        obtain ⟨i, cs2, rfl, hin, hgg, HPM, HROW, BV⟩ := hrel
        by_cases hlt : i < n1
        · have hltz : (i : Int) < (n1 : Int) := by omega
          rcases Nat.eq_zero_or_pos k with hk0 | hk0
          · have hk0z : ¬ (0 : Int) < (k : Int) := by omega
            clear hk0
            obtain ⟨wu, rfl⟩ : ∃ wu, wu = wr := ⟨_, rfl⟩
            have hl2 : cs2.length = k := by rw [HPM.out.length_eq]; exact HCL.out
            have hmm : ∀ s, s ∈ stepsS cs2 ↔ s ∈ l0 := fun s => by
              rw [← HCS.out]
              exact (HPM.out.map CS.s).mem_iff
            have hsm2 : (stepsS cs2).length ≤ 800 ∧ ∀ s ∈ stepsS cs2, s.key.length ≤ 7500 ∧ s.to.length ≤ 7500 := ⟨by unfold stepsS; rw [List.length_map, hl2]; omega, fun s hs => HSM.out.2 s ((hmm s).1 hs)⟩
            have hL2 : allS ltE ((stepsS cs2).map Stp.en) = L := by
              rw [← HL.out]
              refine allS_same sloE fun e => ?_
              simp only [List.mem_map]
              exact ⟨fun ⟨s, hs, he⟩ => ⟨s, (hmm s).1 hs, he⟩, fun ⟨s, hs, he⟩ => ⟨s, (hmm s).2 hs, he⟩⟩
            have HMM := Lib.hid hmm
            have HSM2 := Lib.hid hsm2
            have HL2 := Lib.hid hL2
            have HLN := Lib.hid hl2
            clear hmm hsm2 hL2 hl2
            have S_r207 := Lib.hid (S_r5.out.below BV.out)
            have I_r207 := Lib.hid (I_r5.out.below BV.out)
            have M_r207 := Lib.hid (M_r5.out.below BV.out)
            have t_r207 := Lib.hid (t_r5.out.below BV.out)
            have back_r207 := Lib.hid (HROW.out)
            have HB207 := Lib.hid (below_tr HB5.out BV.out)
            clear S_r5 I_r5 M_r5 t_r5 HROW HB5 BV
            have B208 : Hid (Below wu.heap.size wu wu) := Lib.hid (Below.refl _ _)
            have hst : SlSt wu ab cb (stepsS cs2) := slSt_of_row (back_r207.out.below B208.out) HLN.out (fun x hx => by
              obtain ⟨h1, h2⟩ := HCK.out x (HPM.out.subset hx)
              exact ⟨h1.below (HB207.out), h2.below (HB207.out)⟩) (fun x hx => HCW.out x (HPM.out.subset hx))
            have HST := Lib.hid hst
            clear hst
            have hcon := own_many2 T B208.out ab cb k (stepsS cs2) L (by unfold stepsS; rw [List.length_map]; exact HLN.out) HSM2.out HL2.out (HST.out.below B208.out)
            go_wp2_with fail
            refine (show Calls Try.prog _ _ _ _ from hcon).mono ?_
            rintro e w4 ⟨g3, F3, rfl, hb4, hO⟩
            have B209 := Lib.hid (below_tr B208.out hb4)
            clear B208
            clear hcon hb4
            have x_n4 := Lib.hid hO
            clear hO
            unfold nodeV
            have hcon := own_walk (t_r207.out.below B209.out) none none 0 0 0 0 [] [] L m rfl rfl (by omega) (by omega) (by rw [HM.out]; omega) (SlL.nil _ none 0 (Nat.zero_le _)) (SlL.nil _ none 0 (Nat.zero_le _)) (walk_all L) HM.out
            unfold nodeV at hcon
            go_wp2_with fail
            refine (show Calls Try.prog _ _ _ _ from hcon).mono ?_
            rintro e w5 ⟨a5, c5, rfl, hb5, hs⟩
            have x_210 := Lib.hid (x_n4.out.below hb5)
            have B210 := Lib.hid (below_tr B209.out hb5)
            clear x_n4 B209
            clear hcon hb5
            have e1_n5 := Lib.hid hs
            clear hs
            have hcon := own_walk x_210.out none none 0 0 0 0 [] [] L m rfl rfl (by omega) (by omega) (by rw [HM.out]; omega) (SlL.nil _ none 0 (Nat.zero_le _)) (SlL.nil _ none 0 (Nat.zero_le _)) (walk_all L) HM.out
            unfold nodeV at hcon
            go_wp2_with fail
            refine (show Calls Try.prog _ _ _ _ from hcon).mono ?_
            rintro e w6 ⟨a6, c6, rfl, hb6, hs⟩
            have x_211 := Lib.hid (x_210.out.below hb6)
            have e1_211 := Lib.hid (e1_n5.out.below hb6)
            have B211 := Lib.hid (below_tr B210.out hb6)
            clear x_210 e1_n5 B210
            clear hcon hb6
            have e2_n6 := Lib.hid hs
            clear hs
            have hcon := sameE_is _ _ a5 a6 c5 c6 m m L L true HM.out HM.out (by simp) _ e1_211.out e2_n6.out
            go_wp2_with fail
            refine (show Calls Try.prog _ _ _ _ from hcon).mono ?_
            rintro e w7 ⟨rfl, hb7⟩
            have x_212 := Lib.hid (x_211.out.below hb7)
            have e1_212 := Lib.hid (e1_211.out.below hb7)
            have e2_212 := Lib.hid (e2_n6.out.below hb7)
            have B212 := Lib.hid (below_tr B211.out hb7)
            clear x_211 e1_211 e2_n6 B211
            clear hcon hb7
            clear e1_212
            clear e2_212
            have hcon := own_len (t_r207.out.below B212.out) m (by rw [HM.out]; omega) HM.out
            unfold nodeV at hcon
            go_wp2_with fail
            refine (show Calls Try.prog _ _ _ _ from hcon).mono ?_
            rintro e w8 ⟨rfl, hb8⟩
            have x_213 := Lib.hid (x_212.out.below hb8)
            have B213 := Lib.hid (below_tr B212.out hb8)
            clear x_212 B212
            clear hcon hb8
            have hcon := own_len x_213.out m (by rw [HM.out]; omega) HM.out
            unfold nodeV at hcon
            go_wp2_with fail
            refine (show Calls Try.prog _ _ _ _ from hcon).mono ?_
            rintro e w9 ⟨rfl, hb9⟩
            have x_214 := Lib.hid (x_213.out.below hb9)
            have B214 := Lib.hid (below_tr B213.out hb9)
            clear x_213 B213
            clear hcon hb9
            have HUW := Lib.hid (B214.out).size
            clear x_214
            have S_r215 := Lib.hid (S_r207.out.below B214.out)
            have I_r215 := Lib.hid (I_r207.out.below B214.out)
            have M_r215 := Lib.hid (M_r207.out.below B214.out)
            have t_r215 := Lib.hid (t_r207.out.below B214.out)
            have back_r215 := Lib.hid (back_r207.out.below B214.out)
            have st_r215 := Lib.hid (HST.out.below B214.out)
            have HB215 := Lib.hid (below_tr HB207.out B214.out)
            clear S_r207 I_r207 M_r207 t_r207 back_r207 HST HB207 B214
            have B216 : Hid (Below w9.heap.size w9 w9) := Lib.hid (Below.refl _ _)
            go_wp2_with fail
            go_loopg [12] k (fun gg s12 wr => ∃ (i : Nat) (Li : List Ent) (F4 : Nat → Prop), s12 = .int .i64 i ∧ i ≤ k ∧ k - i ≤ gg ∧ Li.length ≤ m ∧ Hid (∀ z ∈ Li, z ∈ L ∧ z ∉ (stepsS (cs2.take i)).map Stp.en) ∧ Hid (Own1 T w g Li F4 wr) ∧ Hid (Touch F w9 wr) ∧ Hid (∀ k, F4 k → F k ∨ w9.heap.size ≤ k))
            case atStart => exact ⟨0, L, F, rfl, Nat.zero_le _, by omega, by rw [HM.out]; exact Nat.le_refl _, Lib.hid (fun z hz => ⟨hz, by simp [stepsS]⟩), t_r215, Lib.hid (Touch.refl _ _), Lib.hid (fun _ h => .inl h)⟩
            case round =>
              obtain ⟨i, Li, F4, rfl, hin, hgg, hli, HLI, HTR, HTO, HSB⟩ := hrel
              have hfw : ∀ k, w3.heap.size ≤ k → ¬ F k := fun k hk hf => by have := HFW.out k hf; omega
              have HBK := Lib.hid (back_r215.out.stay (HTO.out.stay (G := fun b => w3.heap.size ≤ b) fun k hk => hfw k hk) (fun b q hq => HNEW.out b q hq))
              have HBW : Hid (Below w.heap.size w wr) := Lib.hid ((HB215.out).trans (HTO.out.below HFAR.out (HB215.out).size))
              have HFW2 := Lib.hid hfw
              clear hfw
              by_cases hlt : i < k
              · have hltz : (i : Int) < (k : Int) := by omega
                have z1 : ¬ k ≤ i := by omega
                obtain ⟨x, hx⟩ : ∃ x, cs2[i]? = some x := ⟨cs2[i]'(by rw [HLN.out]; exact hlt), by simp⟩
                have hxm := HPM.out.subset (List.mem_of_getElem? hx)
                obtain ⟨b, o, rfl, d4, _, d0, d1, d2, d3, _⟩ := step_at HBK.out hx
                obtain ⟨kn, hkn⟩ : ∃ kn, x.s.key.length = kn := ⟨_, rfl⟩
                rw [hkn] at d1
                have hk75 : kn ≤ 7500 := by
                  rw [← hkn]
                  exact (HSM.out.2 x.s (by rw [← HCS.out]; exact List.mem_map.2 ⟨x, hxm, rfl⟩)).1
                have hkey := (HCK.out x hxm).1.all
                obtain ⟨z, hz⟩ : ∃ z, decide ((⟨x.s.key, x.s.id⟩ : Ent) ∈ Li) = z := ⟨_, rfl⟩
                have HDEL := Lib.hid (fun (W : World) (hb : Below wr.heap.size wr W) => own_del (HTR.out.below hb) (Nat.le_trans HBW.out.size hb.size) _ x.a x.c kn x.s.key x.s.id z _ hkn hk75 (by omega) (hkey.below (HBW.out.trans (hb.mono HBW.out.size))) (fun k hk hf => by have := HTR.out.far k hf; omega) (HCW.out x hxm).2 hz rfl)
                have HOWN := Lib.hid (fun (W : World) (hb : Below wr.heap.size wr W) => HTR.out.below hb)
                have HTO2 := Lib.hid (fun (W : World) (hb : Below wr.heap.size wr W) => HTO.out.trans (Touch.of_below (F := F) hb) (fun _ _ h => h))
                have HSZ3 : Hid (w9.heap.size ≤ wr.drew.heap.size) := Lib.hid HTO.out.size
                have hld := length_delE ⟨x.s.key, x.s.id⟩ Li
                have HLI2 : Hid (∀ z ∈ delS ⟨x.s.key, x.s.id⟩ Li, z ∈ L ∧ z ∉ (stepsS (cs2.take (i + 1))).map Stp.en) := Lib.hid (fun z hz => by
                  obtain ⟨h1, h2⟩ := mem_delS.1 hz
                  obtain ⟨h3, h4⟩ := HLI.out z h1
                  refine ⟨h3, fun h5 => ?_⟩
                  rw [List.take_add_one, hx] at h5
                  simp only [stepsS, List.map_append, List.mem_append, Option.toList_some, List.map_cons, List.map_nil, List.mem_singleton] at h5
                  rcases h5 with h5 | h5
                  · exact h4 h5
                  · exact h2 h5)
                clear hxm hkn hk75 hkey hx hz HTR HTO HBK HBW HLI
                go_wp2_with fail
                go_still_tail 11, (by kernel_rfl)
                change wpList _ _ _ _ _ wr.drew
                have hc2 := HDEL.out wr.drew (below_drw wr)
                have HO := Lib.hid (HOWN.out wr.drew (below_drw wr))
                have HT3 := Lib.hid (HTO2.out wr.drew (below_drw wr))
                clear d0 d1 d2 d3 d4 HDEL HOWN HTO2
                generalize wr.drew = W at hc2 HO HT3 HSZ3 ⊢
                unfold nodeV at hc2
                go_wp2_with fail
                refine hc2.mono ?_
                rintro e w2' ⟨rfl, F5, hu⟩
                have HC3 := Lib.hid hu.own
                have HT4 : Hid (Touch F w9 w2') := Lib.hid (HT3.out.trans hu.touch (fun k hk hf => (HSB.out k hf).elim id (fun h => by omega)))
                have HS4 : Hid (∀ k, F5 k → F k ∨ w9.heap.size ≤ k) := Lib.hid (fun k hf => (hu.sub k hf).elim (HSB.out k) (fun h => .inr (Nat.le_trans HSZ3.out h)))
                clear hc2 hu
                go_wp2_with fail
                go_roundg (k - (i + 1))
                case measure => omega
                case rel => exact ⟨i + 1, _, F5, by go_num, by omega, Nat.le_refl _, by omega, HLI2, HC3, HT4, HS4⟩
              · have hltz : ¬ (i : Int) < (k : Int) := by omega
                obtain rfl : i = k := by omega
                have hnil : Li = [] := by
                  cases Li with
                  | nil => rfl
                  | cons z l =>
                    obtain ⟨h1, h2⟩ := HLI.out z (List.mem_cons_self ..)
                    rw [List.take_of_length_le (by rw [HLN.out]; exact Nat.le_refl _)] at h2
                    rw [← HL.out, mem_allS sloE] at h1
                    obtain ⟨s, hs, rfl⟩ := List.mem_map.1 h1
                    exact absurd (List.mem_map.2 ⟨s, (HMM.out s).2 hs, rfl⟩) h2
                subst hnil
                clear HTO HSB HBK HLI
                have hcon := own_len HTR.out 0 (by simp) rfl
                unfold nodeV at hcon
                go_wp2_with fail
                refine (show Calls Try.prog _ _ _ _ from hcon).mono ?_
                rintro e w10 ⟨rfl, hb10⟩
                have t_317 := Lib.hid (HTR.out.below hb10)
                have B317 := Lib.hid (below_tr HBW.out hb10)
                clear HTR HBW
                clear hcon hb10
                have hcon := own_walk t_317.out none none 0 0 0 0 [] [] [] 0 rfl rfl (by omega) (by omega) (by simp) (SlL.nil _ none 0 (Nat.zero_le _)) (SlL.nil _ none 0 (Nat.zero_le _)) (walk_all []) rfl
                unfold nodeV at hcon
                go_wp2_with fail
                refine (show Calls Try.prog _ _ _ _ from hcon).mono ?_
                rintro e w11 ⟨a8, c8, rfl, hb11, hs⟩
                have t_318 := Lib.hid (t_317.out.below hb11)
                have B318 := Lib.hid (below_tr B317.out hb11)
                clear t_317 B317
                clear hcon hb11
                clear hs
                have hcon := own_height t_318.out (by simp)
                unfold nodeV at hcon
                go_wp2_with fail
                refine (show Calls Try.prog _ _ _ _ from hcon).mono ?_
                rintro e w12 ⟨kk, rfl, hb12, hh⟩
                have t_319 := Lib.hid (t_318.out.below hb12)
                have B319 := Lib.hid (below_tr B318.out hb12)
                clear t_318 B318
                clear hcon hb12
                obtain rfl : kk = 0 := high_none hh
                clear hh
                go_wp2_with fail
                go_ret
                exact ⟨rfl, B319.out⟩
          · have hk0z : (0 : Int) < (k : Int) := by omega
            have z1 : ¬ n1 ≤ i := by omega
            have hlen2 : cs2.length = k := by rw [HPM.out.length_eq]; exact HCL.out
            obtain ⟨y, hy⟩ : ∃ y, l1[i]? = some y := ⟨l1[i]'(by rw [HN1.out]; exact hlt), by simp⟩
            obtain ⟨b', o', rfl, hc, hb'⟩ := at_i (I_r5.out.below BV.out) hy
            obtain ⟨ta, hta, hta2⟩ := at_num y k hk0 (by omega)
            obtain ⟨tb, htb, htb2⟩ := mod_num i k hk0
            obtain ⟨x, hx⟩ : ∃ x, cs2[ta]? = some x := ⟨cs2[ta]'(by omega), by simp⟩
            obtain ⟨z, hz⟩ : ∃ z, cs2[tb]? = some z := ⟨cs2[tb]'(by omega), by simp⟩
            obtain ⟨b, o, rfl, blt, _, d0, d1, d2, d3, df⟩ := step_at HROW.out hx
            obtain ⟨b2, o2, e2, _, _, e0, e1, e2', e3, ef⟩ := step_at HROW.out hz
            cases e2
            have f0 := df 0 (by omega)
            have f1 := df 1 (by omega)
            have f2 := df 2 (by omega)
            have f3 := df 3 (by omega)
            have g0 := ef 0 (by omega)
            have g1 := ef 1 (by omega)
            have g2 := ef 2 (by omega)
            have g3 := ef 3 (by omega)
            simp only [Nat.add_zero] at f0 g0
            have hta3 : (ta : Int) < (k : Int) := by omega
            have htb3 : (tb : Int) < (k : Int) := by omega
            have hta4 : ¬ k ≤ ta := by omega
            have htb4 : ¬ k ≤ tb := by omega
            have hkn0 : ¬ (k : Int) = 0 := by omega
            go_wp2_with fail
            simp only [hta]
            clear hta htb hc hb'
            have hsw := swap_row HROW.out hx hz
            have hpm := swap_perm hx hz
            obtain ⟨W9, hW9⟩ : ∃ W9, ((wr.setCells b (o + ta * 4) z.cs).setCells b (o + tb * 4) x.cs).drew = W9 := ⟨_, rfl⟩
            rw [hW9] at hsw
            have HW9 : Hid (((((((((wr.setCell ⟨b, o + ta * 4, none⟩ (.int .u8 z.s.kind)).setCell ⟨b, o + ta * 4 + 1, none⟩ (.slice z.a z.s.key.length z.c)).setCell ⟨b, o + ta * 4 + 2, none⟩ (.slice z.a' z.s.to.length z.c')).setCell ⟨b, o + ta * 4 + 3, none⟩ (.int .i64 z.s.id)).setCell ⟨b, o + tb * 4, none⟩ (.int .u8 x.s.kind)).setCell ⟨b, o + tb * 4 + 1, none⟩ (.slice x.a x.s.key.length x.c)).setCell ⟨b, o + tb * 4 + 2, none⟩ (.slice x.a' x.s.to.length x.c')).setCell ⟨b, o + tb * 4 + 3, none⟩ (.int .i64 x.s.id)).drew = W9) := Lib.hid hW9
            have HR9 := Lib.hid hsw.1
            have HP9 := Lib.hid (hpm.trans HPM.out)
            have HB9 : Hid (Below w3.heap.size w3 W9) := Lib.hid (BV.out.trans ((hsw.2.touch (G := fun b => w3.heap.size ≤ b) fun b q _ hf => HNEW.out b q hf).below (fun _ h => h) BV.out.size))
            clear hsw hpm hW9
            by_cases hab : ta = tb
            · subst hab
              rw [hx] at hz
              cases hz
              go_region
              rw [HW9.out]
              clear d0 d1 d2 d3 e0 e1 e2' e3 f0 f1 f2 f3 g0 g1 g2 g3 df ef blt
              go_wp2_with fail
              go_roundg (n1 - (i + 1))
              case measure => omega
              case rel => exact ⟨i + 1, _, by go_num, by omega, Nat.le_refl _, HP9, HR9, HB9⟩
            · go_region
              rw [HW9.out]
              clear d0 d1 d2 d3 e0 e1 e2' e3 f0 f1 f2 f3 g0 g1 g2 g3 df ef blt
              go_wp2_with fail
              go_roundg (n1 - (i + 1))
              case measure => omega
              case rel => exact ⟨i + 1, _, by go_num, by omega, Nat.le_refl _, HP9, HR9, HB9⟩
        · have hltz : ¬ (i : Int) < (n1 : Int) := by omega
          obtain ⟨wu, rfl⟩ : ∃ wu, wu = wr := ⟨_, rfl⟩
          have hl2 : cs2.length = k := by rw [HPM.out.length_eq]; exact HCL.out
          have hmm : ∀ s, s ∈ stepsS cs2 ↔ s ∈ l0 := fun s => by
            rw [← HCS.out]
            exact (HPM.out.map CS.s).mem_iff
          have hsm2 : (stepsS cs2).length ≤ 800 ∧ ∀ s ∈ stepsS cs2, s.key.length ≤ 7500 ∧ s.to.length ≤ 7500 := ⟨by unfold stepsS; rw [List.length_map, hl2]; omega, fun s hs => HSM.out.2 s ((hmm s).1 hs)⟩
          have hL2 : allS ltE ((stepsS cs2).map Stp.en) = L := by
            rw [← HL.out]
            refine allS_same sloE fun e => ?_
            simp only [List.mem_map]
            exact ⟨fun ⟨s, hs, he⟩ => ⟨s, (hmm s).1 hs, he⟩, fun ⟨s, hs, he⟩ => ⟨s, (hmm s).2 hs, he⟩⟩
          have HMM := Lib.hid hmm
          have HSM2 := Lib.hid hsm2
          have HL2 := Lib.hid hL2
          have HLN := Lib.hid hl2
          clear hmm hsm2 hL2 hl2
          have S_r207 := Lib.hid (S_r5.out.below BV.out)
          have I_r207 := Lib.hid (I_r5.out.below BV.out)
          have M_r207 := Lib.hid (M_r5.out.below BV.out)
          have t_r207 := Lib.hid (t_r5.out.below BV.out)
          have back_r207 := Lib.hid (HROW.out)
          have HB207 := Lib.hid (below_tr HB5.out BV.out)
          clear S_r5 I_r5 M_r5 t_r5 HROW HB5 BV
          have B208 : Hid (Below wu.heap.size wu wu) := Lib.hid (Below.refl _ _)
          have hst : SlSt wu ab cb (stepsS cs2) := slSt_of_row (back_r207.out.below B208.out) HLN.out (fun x hx => by
            obtain ⟨h1, h2⟩ := HCK.out x (HPM.out.subset hx)
            exact ⟨h1.below (HB207.out), h2.below (HB207.out)⟩) (fun x hx => HCW.out x (HPM.out.subset hx))
          have HST := Lib.hid hst
          clear hst
          have hcon := own_many2 T B208.out ab cb k (stepsS cs2) L (by unfold stepsS; rw [List.length_map]; exact HLN.out) HSM2.out HL2.out (HST.out.below B208.out)
          go_wp2_with fail
          refine (show Calls Try.prog _ _ _ _ from hcon).mono ?_
          rintro e w4 ⟨g3, F3, rfl, hb4, hO⟩
          have B209 := Lib.hid (below_tr B208.out hb4)
          clear B208
          clear hcon hb4
          have x_n4 := Lib.hid hO
          clear hO
          unfold nodeV
          have hcon := own_walk (t_r207.out.below B209.out) none none 0 0 0 0 [] [] L m rfl rfl (by omega) (by omega) (by rw [HM.out]; omega) (SlL.nil _ none 0 (Nat.zero_le _)) (SlL.nil _ none 0 (Nat.zero_le _)) (walk_all L) HM.out
          unfold nodeV at hcon
          go_wp2_with fail
          refine (show Calls Try.prog _ _ _ _ from hcon).mono ?_
          rintro e w5 ⟨a5, c5, rfl, hb5, hs⟩
          have x_210 := Lib.hid (x_n4.out.below hb5)
          have B210 := Lib.hid (below_tr B209.out hb5)
          clear x_n4 B209
          clear hcon hb5
          have e1_n5 := Lib.hid hs
          clear hs
          have hcon := own_walk x_210.out none none 0 0 0 0 [] [] L m rfl rfl (by omega) (by omega) (by rw [HM.out]; omega) (SlL.nil _ none 0 (Nat.zero_le _)) (SlL.nil _ none 0 (Nat.zero_le _)) (walk_all L) HM.out
          unfold nodeV at hcon
          go_wp2_with fail
          refine (show Calls Try.prog _ _ _ _ from hcon).mono ?_
          rintro e w6 ⟨a6, c6, rfl, hb6, hs⟩
          have x_211 := Lib.hid (x_210.out.below hb6)
          have e1_211 := Lib.hid (e1_n5.out.below hb6)
          have B211 := Lib.hid (below_tr B210.out hb6)
          clear x_210 e1_n5 B210
          clear hcon hb6
          have e2_n6 := Lib.hid hs
          clear hs
          have hcon := sameE_is _ _ a5 a6 c5 c6 m m L L true HM.out HM.out (by simp) _ e1_211.out e2_n6.out
          go_wp2_with fail
          refine (show Calls Try.prog _ _ _ _ from hcon).mono ?_
          rintro e w7 ⟨rfl, hb7⟩
          have x_212 := Lib.hid (x_211.out.below hb7)
          have e1_212 := Lib.hid (e1_211.out.below hb7)
          have e2_212 := Lib.hid (e2_n6.out.below hb7)
          have B212 := Lib.hid (below_tr B211.out hb7)
          clear x_211 e1_211 e2_n6 B211
          clear hcon hb7
          clear e1_212
          clear e2_212
          have hcon := own_len (t_r207.out.below B212.out) m (by rw [HM.out]; omega) HM.out
          unfold nodeV at hcon
          go_wp2_with fail
          refine (show Calls Try.prog _ _ _ _ from hcon).mono ?_
          rintro e w8 ⟨rfl, hb8⟩
          have x_213 := Lib.hid (x_212.out.below hb8)
          have B213 := Lib.hid (below_tr B212.out hb8)
          clear x_212 B212
          clear hcon hb8
          have hcon := own_len x_213.out m (by rw [HM.out]; omega) HM.out
          unfold nodeV at hcon
          go_wp2_with fail
          refine (show Calls Try.prog _ _ _ _ from hcon).mono ?_
          rintro e w9 ⟨rfl, hb9⟩
          have x_214 := Lib.hid (x_213.out.below hb9)
          have B214 := Lib.hid (below_tr B213.out hb9)
          clear x_213 B213
          clear hcon hb9
          have HUW := Lib.hid (B214.out).size
          clear x_214
          have S_r215 := Lib.hid (S_r207.out.below B214.out)
          have I_r215 := Lib.hid (I_r207.out.below B214.out)
          have M_r215 := Lib.hid (M_r207.out.below B214.out)
          have t_r215 := Lib.hid (t_r207.out.below B214.out)
          have back_r215 := Lib.hid (back_r207.out.below B214.out)
          have st_r215 := Lib.hid (HST.out.below B214.out)
          have HB215 := Lib.hid (below_tr HB207.out B214.out)
          clear S_r207 I_r207 M_r207 t_r207 back_r207 HST HB207 B214
          have B216 : Hid (Below w9.heap.size w9 w9) := Lib.hid (Below.refl _ _)
          go_wp2_with fail
          go_loopg [12] k (fun gg s12 wr => ∃ (i : Nat) (Li : List Ent) (F4 : Nat → Prop), s12 = .int .i64 i ∧ i ≤ k ∧ k - i ≤ gg ∧ Li.length ≤ m ∧ Hid (∀ z ∈ Li, z ∈ L ∧ z ∉ (stepsS (cs2.take i)).map Stp.en) ∧ Hid (Own1 T w g Li F4 wr) ∧ Hid (Touch F w9 wr) ∧ Hid (∀ k, F4 k → F k ∨ w9.heap.size ≤ k))
          case atStart => exact ⟨0, L, F, rfl, Nat.zero_le _, by omega, by rw [HM.out]; exact Nat.le_refl _, Lib.hid (fun z hz => ⟨hz, by simp [stepsS]⟩), t_r215, Lib.hid (Touch.refl _ _), Lib.hid (fun _ h => .inl h)⟩
          case round =>
            obtain ⟨i, Li, F4, rfl, hin, hgg, hli, HLI, HTR, HTO, HSB⟩ := hrel
            have hfw : ∀ k, w3.heap.size ≤ k → ¬ F k := fun k hk hf => by have := HFW.out k hf; omega
            have HBK := Lib.hid (back_r215.out.stay (HTO.out.stay (G := fun b => w3.heap.size ≤ b) fun k hk => hfw k hk) (fun b q hq => HNEW.out b q hq))
            have HBW : Hid (Below w.heap.size w wr) := Lib.hid ((HB215.out).trans (HTO.out.below HFAR.out (HB215.out).size))
            have HFW2 := Lib.hid hfw
            clear hfw
            by_cases hlt : i < k
            · have hltz : (i : Int) < (k : Int) := by omega
              have z1 : ¬ k ≤ i := by omega
              obtain ⟨x, hx⟩ : ∃ x, cs2[i]? = some x := ⟨cs2[i]'(by rw [HLN.out]; exact hlt), by simp⟩
              have hxm := HPM.out.subset (List.mem_of_getElem? hx)
              obtain ⟨b, o, rfl, d4, _, d0, d1, d2, d3, _⟩ := step_at HBK.out hx
              obtain ⟨kn, hkn⟩ : ∃ kn, x.s.key.length = kn := ⟨_, rfl⟩
              rw [hkn] at d1
              have hk75 : kn ≤ 7500 := by
                rw [← hkn]
                exact (HSM.out.2 x.s (by rw [← HCS.out]; exact List.mem_map.2 ⟨x, hxm, rfl⟩)).1
              have hkey := (HCK.out x hxm).1.all
              obtain ⟨z, hz⟩ : ∃ z, decide ((⟨x.s.key, x.s.id⟩ : Ent) ∈ Li) = z := ⟨_, rfl⟩
              have HDEL := Lib.hid (fun (W : World) (hb : Below wr.heap.size wr W) => own_del (HTR.out.below hb) (Nat.le_trans HBW.out.size hb.size) _ x.a x.c kn x.s.key x.s.id z _ hkn hk75 (by omega) (hkey.below (HBW.out.trans (hb.mono HBW.out.size))) (fun k hk hf => by have := HTR.out.far k hf; omega) (HCW.out x hxm).2 hz rfl)
              have HOWN := Lib.hid (fun (W : World) (hb : Below wr.heap.size wr W) => HTR.out.below hb)
              have HTO2 := Lib.hid (fun (W : World) (hb : Below wr.heap.size wr W) => HTO.out.trans (Touch.of_below (F := F) hb) (fun _ _ h => h))
              have HSZ3 : Hid (w9.heap.size ≤ wr.drew.heap.size) := Lib.hid HTO.out.size
              have hld := length_delE ⟨x.s.key, x.s.id⟩ Li
              have HLI2 : Hid (∀ z ∈ delS ⟨x.s.key, x.s.id⟩ Li, z ∈ L ∧ z ∉ (stepsS (cs2.take (i + 1))).map Stp.en) := Lib.hid (fun z hz => by
                obtain ⟨h1, h2⟩ := mem_delS.1 hz
                obtain ⟨h3, h4⟩ := HLI.out z h1
                refine ⟨h3, fun h5 => ?_⟩
                rw [List.take_add_one, hx] at h5
                simp only [stepsS, List.map_append, List.mem_append, Option.toList_some, List.map_cons, List.map_nil, List.mem_singleton] at h5
                rcases h5 with h5 | h5
                · exact h4 h5
                · exact h2 h5)
              clear hxm hkn hk75 hkey hx hz HTR HTO HBK HBW HLI
              go_wp2_with fail
              go_still_tail 11, (by kernel_rfl)
              change wpList _ _ _ _ _ wr.drew
              have hc2 := HDEL.out wr.drew (below_drw wr)
              have HO := Lib.hid (HOWN.out wr.drew (below_drw wr))
              have HT3 := Lib.hid (HTO2.out wr.drew (below_drw wr))
              clear d0 d1 d2 d3 d4 HDEL HOWN HTO2
              generalize wr.drew = W at hc2 HO HT3 HSZ3 ⊢
              unfold nodeV at hc2
              go_wp2_with fail
              refine hc2.mono ?_
              rintro e w2' ⟨rfl, F5, hu⟩
              have HC3 := Lib.hid hu.own
              have HT4 : Hid (Touch F w9 w2') := Lib.hid (HT3.out.trans hu.touch (fun k hk hf => (HSB.out k hf).elim id (fun h => by omega)))
              have HS4 : Hid (∀ k, F5 k → F k ∨ w9.heap.size ≤ k) := Lib.hid (fun k hf => (hu.sub k hf).elim (HSB.out k) (fun h => .inr (Nat.le_trans HSZ3.out h)))
              clear hc2 hu
              go_wp2_with fail
              go_roundg (k - (i + 1))
              case measure => omega
              case rel => exact ⟨i + 1, _, F5, by go_num, by omega, Nat.le_refl _, by omega, HLI2, HC3, HT4, HS4⟩
            · have hltz : ¬ (i : Int) < (k : Int) := by omega
              obtain rfl : i = k := by omega
              have hnil : Li = [] := by
                cases Li with
                | nil => rfl
                | cons z l =>
                  obtain ⟨h1, h2⟩ := HLI.out z (List.mem_cons_self ..)
                  rw [List.take_of_length_le (by rw [HLN.out]; exact Nat.le_refl _)] at h2
                  rw [← HL.out, mem_allS sloE] at h1
                  obtain ⟨s, hs, rfl⟩ := List.mem_map.1 h1
                  exact absurd (List.mem_map.2 ⟨s, (HMM.out s).2 hs, rfl⟩) h2
              subst hnil
              clear HTO HSB HBK HLI
              have hcon := own_len HTR.out 0 (by simp) rfl
              unfold nodeV at hcon
              go_wp2_with fail
              refine (show Calls Try.prog _ _ _ _ from hcon).mono ?_
              rintro e w10 ⟨rfl, hb10⟩
              have t_317 := Lib.hid (HTR.out.below hb10)
              have B317 := Lib.hid (below_tr HBW.out hb10)
              clear HTR HBW
              clear hcon hb10
              have hcon := own_walk t_317.out none none 0 0 0 0 [] [] [] 0 rfl rfl (by omega) (by omega) (by simp) (SlL.nil _ none 0 (Nat.zero_le _)) (SlL.nil _ none 0 (Nat.zero_le _)) (walk_all []) rfl
              unfold nodeV at hcon
              go_wp2_with fail
              refine (show Calls Try.prog _ _ _ _ from hcon).mono ?_
              rintro e w11 ⟨a8, c8, rfl, hb11, hs⟩
              have t_318 := Lib.hid (t_317.out.below hb11)
              have B318 := Lib.hid (below_tr B317.out hb11)
              clear t_317 B317
              clear hcon hb11
              clear hs
              have hcon := own_height t_318.out (by simp)
              unfold nodeV at hcon
              go_wp2_with fail
              refine (show Calls Try.prog _ _ _ _ from hcon).mono ?_
              rintro e w12 ⟨kk, rfl, hb12, hh⟩
              have t_319 := Lib.hid (t_318.out.below hb12)
              have B319 := Lib.hid (below_tr B318.out hb12)
              clear t_318 B318
              clear hcon hb12
              obtain rfl : kk = 0 := high_none hh
              clear hh
              go_wp2_with fail
              go_ret
              exact ⟨rfl, B319.out⟩
    · obtain ⟨p, rfl⟩ : ∃ p, q = p + 1 := ⟨q - 1, by omega⟩
      obtain rfl : j = (p : Int) := by omega
      clear hj hq
      have hp0 : 0 ≤ (p : Int) := by omega
      have hpn : (p : Int) < (n0 : Int) := by omega
      have hpz : ¬ n0 ≤ p := by omega
      obtain ⟨x, hx⟩ : ∃ x, css[p]? = some x := ⟨css[p]'(by rw [HCL.out]; omega), by simp⟩
      obtain ⟨b, o, rfl, d4, d0, d1, d2, d3⟩ := (M_r5.out.below BW.out) p x hx
      obtain ⟨ie, ES⟩ := elS
      have hal := Below.allocs wr (.cells #[.int .u8 x.s.kind, .slice x.a x.s.key.length x.c, .slice x.a' x.s.to.length x.c', .int .i64 x.s.id] 29)
      have lv := Lit.step wr x
      have hsrc : Src Try.prog 4 22 (.slice (some ⟨wr.heap.size, 0, none⟩) 1 1) 1 x.cs (wr.alloc (.cells #[.int .u8 x.s.kind, .slice x.a x.s.key.length x.c, .slice x.a' x.s.to.length x.c', .int .i64 x.s.id] 29)) := Src.ofSlice _ ES.ut ⟨wr.heap.size, 0, none⟩ 1 1 _ (by simp [CS.cs]) lv.at'.add lv.one
      obtain ⟨a', c', W5, hrun, har, hasub, hat⟩ := row_app ES (HROW.out.below hal) _ 1 _ hsrc (by omega)
      have hsz := BW.out.size
      have HB5 : Hid (Below w3.heap.size w3 W5) := Lib.hid ((BW.out.trans (hal.mono hsz)).trans ((hat.touch (G := fun b => w3.heap.size ≤ b) fun b q _ hf => HNEW.out b q hf).below (fun _ h => h) (Nat.le_trans hsz hal.size)))
      have HRUN := Lib.hid (hrun 22)
      have HR2 : Hid (RowS 4 W5 a' (k + 1) c' (flatS (css.drop p).reverse)) := Lib.hid (by rw [drop_revS hx, flatS_app, show flatS [x] = x.cs by simp [flatS]]; exact har)
      have HN2 : Hid (∀ b q, SlF 4 a' c' b q → w3.heap.size ≤ b) := Lib.hid (fun b q hf => by
        rcases hasub b q hf with h1 | h1
        · exact HNEW.out b q h1
        · unfold Fr at h1
          have := hal.size
          omega)
      clear hal lv hsrc hrun har hasub hat hsz ES hx
      go_wp2_with (at_builtin; refine append_stepW rfl _ _ 22 rfl _ _ _ _ rfl rfl HRUN.out ?_)
      go_roundg p
      case measure => omega
      case rel => exact ⟨p, k + 1, _, a', c', rfl, by go_num, rfl, by omega, Nat.le_refl _, HR2, HN2, HB5⟩

theorem rows_law (T : TreeSpec) (a0 : Option Addr) (c0 n0 : Nat) (l0 : List Stp) (a1 : Option Addr) (c1 n1 : Nat) (l1 : List Int) (hn0 : l0.length = n0) (hn1 : l1.length = n1) (w : World) (hs0 : SlSt w a0 c0 l0) (hs1 : SlI w a1 c1 l1) :
    Calls Try.prog 5 #[.slice a0 n0 c0, .slice a1 n1 c1] w fun e w' => e = .returned (.bool true) ∧ Below w.heap.size w w' := by
  cases hz0 : largeS l0 with
  | true => exact rows_large T a0 c0 n0 l0 a1 c1 n1 l1 hn0 hn1 w hs0 hs1 hz0
  | false =>
    by_cases h1 : 1000 < n1
    · exact rows_wide T a0 c0 n0 l0 a1 c1 n1 l1 hn0 hn1 w hs0 hs1 hz0 h1
    · exact rows_main T a0 c0 n0 l0 a1 c1 n1 l1 hn0 hn1 w hs0 hs1 hz0 h1

end Go.Proofs.Ytfikaccgpjiedaa

