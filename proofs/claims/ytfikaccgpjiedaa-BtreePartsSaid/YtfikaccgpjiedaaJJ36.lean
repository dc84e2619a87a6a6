/-
  What the laws of stage 7 hold between calls; whether entries are those that are told.
-/
import Derived.Test.YtfikaccgpjiedaaJBSpec
import Derived.StillTailTactics
namespace Go.Proofs.Ytfikaccgpjiedaa
open Go.RowKit Go.Lib

theorem newIg (w : World) (g : Nat) (hg : w.heap.size = g) (l : List Int) (hw : ∀ x ∈ l, I64 x) (hl : l.length ≤ 1000000) : SlI (w.alloc (.cells (l.map (Value.int .i64)).toArray 3)) (some ⟨g, 0, none⟩) l.length l := by
  subst hg
  refine ⟨Nat.le_refl _, by unfold maxLen; omega, fun _ => ⟨w.heap.size, 0, rfl, by simp, fun i x hx => ?_⟩, hw⟩
  rw [World.cell?_alloc_at _ _ _ _ (by simp)]
  simp [hx]
theorem alli64 {l : List Int} (h : (l.all fun x => decide (-9223372036854775808 ≤ x ∧ x ≤ 9223372036854775807)) = true) : ∀ x ∈ l, I64 x := by
  intro x hx
  have := List.all_eq_true.mp h x hx
  unfold I64
  simpa using this

theorem TreeSpec.Is.below {T : TreeSpec} {W W' : World} {g : Nat} {L : List Ent} {F : Nat → Prop} (h : T.Is W g L F) (hb : Below W.heap.size W W') : T.Is W' g L F := T.stay h (Stay.of_below hb)

/-- A tree that the call at w has made: it may write into blocks of F, all of them newer. -/
structure Own1 (T : TreeSpec) (w : World) (g : Nat) (L : List Ent) (F : Nat → Prop) (W : World) : Prop where
  is : T.Is W g L F
  far : ∀ k, F k → w.heap.size ≤ k

theorem Own1.below {T : TreeSpec} {w W W' : World} {g : Nat} {L : List Ent} {F : Nat → Prop} (h : Own1 T w g L F W) (hb : Below W.heap.size W W') : Own1 T w g L F W' := ⟨h.is.below hb, h.far⟩
theorem Own1.stay {T : TreeSpec} {w W W' : World} {g : Nat} {L : List Ent} {F : Nat → Prop} (h : Own1 T w g L F W) (hs : Stay F W W') : Own1 T w g L F W' := ⟨T.stay h.is hs, h.far⟩

/-- What a Put, or a Del, leaves. -/
structure Upd (T : TreeSpec) (w : World) (g : Nat) (L : List Ent) (F : Nat → Prop) (W : World) (L' : List Ent) (F' : Nat → Prop) (W' : World) : Prop where
  own : Own1 T w g L' F' W'
  sub : ∀ k, F' k → F k ∨ W.heap.size ≤ k
  touch : Touch F W W'

theorem Upd.bel {T : TreeSpec} {w W W' : World} {g : Nat} {L L' : List Ent} {F F' : Nat → Prop} (u : Upd T w g L F W L' F' W') (h : Own1 T w g L F W) (hb : Below w.heap.size w W) : Below w.heap.size w W' := hb.trans (u.touch.below h.far hb.size)
theorem Upd.stay {T : TreeSpec} {w W W' : World} {g : Nat} {L L' : List Ent} {F F' G : Nat → Prop} (u : Upd T w g L F W L' F' W') (hG : ∀ k, G k → ¬ F k) : Stay G W W' := u.touch.stay hG

theorem own_new (T : TreeSpec) (w : World) (W : World) (hb : Below w.heap.size w W) : Calls Try.prog 9 #[] W fun e w' => ∃ g F, e = .returned (nodeV g) ∧ Below W.heap.size W w' ∧ Own1 T w g [] F w' ∧ ∀ k, F k → W.heap.size ≤ k := by
  refine (T.new_is W).mono ?_
  rintro e w' ⟨g, F, rfl, h1, h2, h3⟩
  exact ⟨g, F, rfl, h3, ⟨h1, fun k hk => Nat.le_trans hb.size (h2 k hk)⟩, h2⟩

theorem own_put {T : TreeSpec} {w W : World} {g : Nat} {L : List Ent} {F : Nat → Prop} (h : Own1 T w g L F W) (hw : w.heap.size ≤ W.heap.size) (G : Nat → Prop) (a : Option Addr) (c n : Nat) (key : List Val) (id : Int) (z : Bool) (L' : List Ent) (hn : key.length = n) (h7 : n ≤ 7500) (hL : L.length ≤ 2000) (hk : SlG G W a c key) (hG : ∀ k, G k → ¬ F k) (hid : I64 id) (hz : decide ((⟨key, id⟩ : Ent) ∉ L) = z) (hL' : insS ltE ⟨key, id⟩ L = L') :
    Calls Try.prog 10 #[nodeV g, .slice a n c, .int .i64 id] W fun e w' => e = .returned (.bool z) ∧ ∃ F', Upd T w g L F W L' F' w' := by
  subst hL'
  refine (T.put_is W g L F G a c n key id z hn h7 hL hk hG hid hz h.is).mono ?_
  rintro e w' ⟨F', rfl, h1, h2, h3⟩
  exact ⟨rfl, F', ⟨h1, fun k hk => (h2 k hk).elim (h.far k) (fun h => by omega)⟩, h2, h3⟩

theorem own_del {T : TreeSpec} {w W : World} {g : Nat} {L : List Ent} {F : Nat → Prop} (h : Own1 T w g L F W) (hw : w.heap.size ≤ W.heap.size) (G : Nat → Prop) (a : Option Addr) (c n : Nat) (key : List Val) (id : Int) (z : Bool) (L' : List Ent) (hn : key.length = n) (h7 : n ≤ 7500) (hL : L.length ≤ 2000) (hk : SlG G W a c key) (hG : ∀ k, G k → ¬ F k) (hid : I64 id) (hz : decide ((⟨key, id⟩ : Ent) ∈ L) = z) (hL' : delS ⟨key, id⟩ L = L') :
    Calls Try.prog 11 #[nodeV g, .slice a n c, .int .i64 id] W fun e w' => e = .returned (.bool z) ∧ ∃ F', Upd T w g L F W L' F' w' := by
  subst hL'
  refine (T.del_is W g L F G a c n key id z hn h7 hL hk hG hid hz h.is).mono ?_
  rintro e w' ⟨F', rfl, h1, h2, h3⟩
  exact ⟨rfl, F', ⟨h1, fun k hk => (h2 k hk).elim (h.far k) (fun h => by omega)⟩, h2, h3⟩

/-- A key made by the call ahead is put. -/
theorem own_put1 {T : TreeSpec} {w W0 W : World} {g : Nat} {L : List Ent} {F : Nat → Prop} (h : Own1 T w g L F W) (hW : ∀ k, F k → k < W0.heap.size) (hw : w.heap.size ≤ W.heap.size) (a : Option Addr) (c : Nat) (x id : Int) (z : Bool) (L' : List Ent) (hL : L.length ≤ 2000) (hk : SlG (fun k => W0.heap.size ≤ k) W a c [vn x]) (hid : I64 id) (hz : decide ((⟨[vn x], id⟩ : Ent) ∉ L) = z) (hL' : insS ltE ⟨[vn x], id⟩ L = L') :
    Calls Try.prog 10 #[nodeV g, .slice a 1 c, .int .i64 id] W fun e w' => e = .returned (.bool z) ∧ ∃ F', Upd T w g L F W L' F' w' :=
  own_put h hw _ a c 1 [vn x] id z L' rfl (by omega) hL hk (fun k h1 h2 => by have := hW k h2; omega) hid hz hL'

/-! ### is -/

def pw (ps : List (Int × Int)) : List Int := ps.flatMap fun p => [p.1, p.2]
def pe (ps : List (Int × Int)) : List Ent := ps.map fun p => ⟨[vn p.1], p.2⟩

theorem pw_len : ∀ ps : List (Int × Int), (pw ps).length = 2 * ps.length
  | [] => rfl
  | p :: ps => by
      have e : pw (p :: ps) = p.1 :: p.2 :: pw ps := rfl
      rw [e, List.length_cons, List.length_cons, pw_len ps, List.length_cons]
      omega
theorem pw_at : ∀ (ps : List (Int × Int)) (i : Nat) (p : Int × Int), ps[i]? = some p → (pw ps)[2 * i]? = some p.1 ∧ (pw ps)[2 * i + 1]? = some p.2
  | [], _, _, h => by simp at h
  | q :: ps, 0, p, h => by
      have e : pw (q :: ps) = q.1 :: q.2 :: pw ps := rfl
      simp at h
      subst h
      rw [e]
      exact ⟨rfl, rfl⟩
  | q :: ps, i + 1, p, h => by
      have e : pw (q :: ps) = q.1 :: q.2 :: pw ps := rfl
      have h1 := pw_at ps i p (by simpa using h)
      rw [e, show 2 * (i + 1) = 2 * i + 1 + 1 by omega]
      simpa using h1

theorem one_of (x : Int) (hx : I64 x) (w : World) : Calls Try.prog 25 #[.int .i64 x] w fun e w' => ∃ v, e = .returned v ∧ Below w.heap.size w w' ∧ ∃ a c, v = .slice a 1 c ∧ SlL w' a c [vn x] := by
  refine (one_is x hx w).mono ?_
  rintro e w' ⟨a, c, rfl, h1, h2⟩
  exact ⟨_, rfl, h2, a, c, rfl, h1.sl⟩

set_option maxRecDepth 100000 in
set_option maxHeartbeats 4000000 in
theorem is_is (ps : List (Int × Int)) (hps : ∀ p ∈ ps, I64 p.1 ∧ I64 p.2) (hl : ps.length ≤ 2000) (G : Nat → Prop) (a a' : Option Addr) (c c' n n2 : Nat) (hn : ps.length = n) (hn2 : 2 * n = n2) (w : World) (h1 : SlEn G w a c (pe ps)) (h2 : SlI w a' c' (pw ps)) :
    Calls Try.prog 26 #[.slice a n c, .slice a' n2 c'] w fun e w' => e = .returned (.bool true) ∧ Below w.heap.size w w' := by
  have HA := Lib.hid h1
  have HB := Lib.hid h2
  have HN := Lib.hid hn
  have HPS := Lib.hid hps
  have mixed : Try.prog.follows Departure.mixedOrders = true := by kernel_rfl
  have hq : (2 : Int) * (n : Int) = (n2 : Int) := by omega
  have hnb : n ≤ 2000 := by omega
  clear h1 h2 hps
  go_enter Try.func26, Try.ntmps26
  go_wp2_with fail
  go_loopg [5] n (fun gg s5 wr => ∃ p : Nat, s5 = .int .i64 p ∧ p ≤ n ∧ n - p ≤ gg ∧ Hid (Below w.heap.size w wr))
  case atStart => exact ⟨0, rfl, Nat.zero_le _, by omega, Lib.hid (Below.refl _ _)⟩
  case round =>
    obtain ⟨p, rfl, hpn, hgg, BW⟩ := hrel
    by_cases hlt : p < n
    · have hltz : (p : Int) < (n : Int) := by omega
      have z1 : ¬ n ≤ p := by omega
      obtain ⟨j, hj⟩ : ∃ j, 2 * p = j := ⟨_, rfl⟩
      have z2 : ¬ n2 ≤ j := by omega
      have z3 : ¬ n2 ≤ j + 1 := by omega
      have z4 : (j : Int) < (n2 : Int) := by omega
      have z5 : (j : Int) + 1 < (n2 : Int) := by omega
      have z6 : ¬ (j : Int) + 1 < 0 := by omega
      obtain ⟨x, hx⟩ : ∃ x, ps[p]? = some x := ⟨ps[p]'(by rw [HN.out]; exact hlt), by simp⟩
      have hxe : (pe ps)[p]? = some ⟨[vn x.1], x.2⟩ := by unfold pe; rw [List.getElem?_map, hx]; rfl
      obtain ⟨b, o, rfl, ka, kc, d0, d1, d2, d3, _⟩ := at_en (HA.out.below BW.out) hxe
      have hne : pw ps ≠ [] := by
        intro h
        have h3 := pw_len ps
        rw [h, HN.out] at h3
        simp at h3
        omega
      obtain ⟨b', o', rfl, hb', hat⟩ := (HB.out.below BW.out).at' hne
      have e0 := hat _ _ (pw_at ps p x hx).1
      have e1 := hat _ _ (pw_at ps p x hx).2
      rw [hj] at e0 e1
      have HCX : Hid (∀ W', Below wr.heap.size wr W' → W'.cell? ⟨b, o + p * 2, none⟩ = some (.slice ka 1 kc) ∧ W'.cell? ⟨b, o + p * 2 + 1, none⟩ = some (.int .i64 x.2)) := Lib.hid (fun W' hb => ⟨by rw [hb.cell d3]; exact d0, by rw [hb.cell d3]; exact d1⟩)
      have HCY : Hid (∀ W', Below wr.heap.size wr W' → W'.cell? ⟨b', o' + j, none⟩ = some (.int .i64 x.1) ∧ W'.cell? ⟨b', o' + (j + 1), none⟩ = some (.int .i64 x.2)) := Lib.hid (fun W' hb => ⟨by rw [hb.cell hb']; exact e0, by rw [hb.cell hb']; exact e1⟩)
      have HSX := Lib.hid d2.sl
      have HX : Hid (ps[p]? = some x ∧ I64 x.1 ∧ I64 x.2) := Lib.hid ⟨hx, HPS.out x (List.mem_of_getElem? hx)⟩
      clear hx hxe d0 d1 d2 d3 e0 e1 hat hb' hne
      go_wp2_with fail
      have hdr6 := below_drw wr
      try simp only [List.append_eq, List.cons_append, List.nil_append]
      refine RX.wp_region_plan (fun w w' => Below w.heap.size w w') [.it (.slice (some ⟨b, o, none⟩) n c), .it (.int .i64 (p : Int)), .it (.pointer (some ⟨b, o + p * 2, none⟩)), .it (.pointer (some ⟨b, o + p * 2, none⟩)), .it (.slice ka 1 kc), .it (.slice (some ⟨b', o', none⟩) n2 c'), .it (.int .i64 (p : Int)), .it (.int .i64 (j : Int)), .it (.pointer (some ⟨b', o' + j, none⟩)), .it (.int .i64 x.1), .of (fun W v => ∃ a c, v = .slice a 1 c ∧ SlL W a c [vn x.1]), .it (.bool true), .it (.bool false), .it (.bool false), .it (.slice (some ⟨b, o, none⟩) n c), .it (.int .i64 (p : Int)), .it (.pointer (some ⟨b, o + p * 2, none⟩)), .it (.pointer (some ⟨b, o + p * 2 + 1, none⟩)), .it (.int .i64 x.2), .it (.slice (some ⟨b', o', none⟩) n2 c'), .it (.int .i64 (p : Int)), .it (.int .i64 (j : Int)), .it (.int .i64 ((j : Int) + 1)), .it (.pointer (some ⟨b', o' + (j + 1), none⟩)), .it (.int .i64 x.2), .it (.bool false), .it (.bool false)] (by kernel_rfl) (by kernel_rfl) (fun _ => Below.refl _ _) (fun _ _ _ => below_tr) ?_
      refine RX.seqP_value (fun _ => Below.refl _ _) _ (by first | rfl | simp) (fun w' hw' hctx => ?_) ?_
      · go_simp
        try first | with_reducible rfl | simp
      simp only [Act.put, List.setIfInBounds_toArray, List.set_cons_zero, List.set_cons_succ]
      refine RX.seqP_value (fun _ => Below.refl _ _) _ (by first | rfl | simp) (fun w' hw' hctx => ?_) ?_
      · go_simp
        try first | with_reducible rfl | simp
      simp only [Act.put, List.setIfInBounds_toArray, List.set_cons_zero, List.set_cons_succ]
      refine RX.seqP_value (fun _ => Below.refl _ _) _ (by first | rfl | simp) (fun w' hw' hctx => ?_) ?_
      · go_simp
        try first | with_reducible rfl | simp
      simp only [Act.put, List.setIfInBounds_toArray, List.set_cons_zero, List.set_cons_succ]
      refine RX.seqP_value (fun _ => Below.refl _ _) _ (by first | rfl | simp) (fun w' hw' hctx => ?_) ?_
      · go_simp
        try first | with_reducible rfl | simp
      simp only [Act.put, List.setIfInBounds_toArray, List.set_cons_zero, List.set_cons_succ]
      refine RX.seqP_value (fun _ => Below.refl _ _) _ (by first | rfl | simp) (fun w' hw' hctx => ?_) ?_
      · obtain ⟨j0, j1⟩ := HCX.out w' (below_tr hdr6 hw')
        go_simp
        try first | with_reducible rfl | simp
      simp only [Act.put, List.setIfInBounds_toArray, List.set_cons_zero, List.set_cons_succ]
      refine RX.seqP_value (fun _ => Below.refl _ _) _ (by first | rfl | simp) (fun w' hw' hctx => ?_) ?_
      · go_simp
        try first | with_reducible rfl | simp
      simp only [Act.put, List.setIfInBounds_toArray, List.set_cons_zero, List.set_cons_succ]
      refine RX.seqP_value (fun _ => Below.refl _ _) _ (by first | rfl | simp) (fun w' hw' hctx => ?_) ?_
      · go_simp
        try first | with_reducible rfl | simp
      simp only [Act.put, List.setIfInBounds_toArray, List.set_cons_zero, List.set_cons_succ]
      refine RX.seqP_value (fun _ => Below.refl _ _) _ (by first | rfl | simp) (fun w' hw' hctx => ?_) ?_
      · have hjj : (2 : Int) * (p : Int) = (j : Int) := by omega
        have hjw : IntKind.i64.wrap (j : Int) = (j : Int) := wrapI (by unfold I64; omega)
        go_simp
        try first | with_reducible rfl | simp
      simp only [Act.put, List.setIfInBounds_toArray, List.set_cons_zero, List.set_cons_succ]
      refine RX.seqP_value (fun _ => Below.refl _ _) _ (by first | rfl | simp) (fun w' hw' hctx => ?_) ?_
      · go_simp
        try first | with_reducible rfl | simp
      simp only [Act.put, List.setIfInBounds_toArray, List.set_cons_zero, List.set_cons_succ]
      refine RX.seqP_value (fun _ => Below.refl _ _) _ (by first | rfl | simp) (fun w' hw' hctx => ?_) ?_
      · obtain ⟨j0, j1⟩ := HCY.out w' (below_tr hdr6 hw')
        go_simp
        try first | with_reducible rfl | simp
      simp only [Act.put, List.setIfInBounds_toArray, List.set_cons_zero, List.set_cons_succ]
      refine RX.seqP_callOf (25) #[.int .i64 x.1] (fun W v => ∃ a c, v = .slice a 1 c ∧ SlL W a c [vn x.1]) (fun w w' v hb ⟨a, c, e, h⟩ => ⟨a, c, e, h.below hb⟩) (by first | rfl | simp) (fun w' hw' hctx => ?_) (fun w' hw' hctx => one_of x.1 HX.out.2.1 w') (fun u10 => ?_)
      · go_simp
      simp only [Act.put, List.setIfInBounds_toArray, List.set_cons_zero, List.set_cons_succ]
      refine RX.seqP_call (21) #[.slice ka 1 kc, u10] (.bool true) (by first | rfl | simp) (fun w' hw' hctx => ?_) (fun w' hw' hctx => ?_) ?_
      · go_simp
      · obtain ⟨a1, c1, rfl, h1⟩ := hctx.1
        exact rsame_is ka a1 kc c1 1 1 [vn x.1] [vn x.1] true rfl rfl (by simp) w' (HSX.out.below (below_tr hdr6 hw')) h1
      simp only [Act.put, List.setIfInBounds_toArray, List.set_cons_zero, List.set_cons_succ]
      refine RX.seqP_value (fun _ => Below.refl _ _) _ (by first | rfl | simp) (fun w' hw' hctx => ?_) ?_
      · go_simp
        try first | with_reducible rfl | simp
      simp only [Act.put, List.setIfInBounds_toArray, List.set_cons_zero, List.set_cons_succ]
      refine RX.seqP_value (fun _ => Below.refl _ _) _ (by first | rfl | simp) (fun w' hw' hctx => ?_) ?_
      · go_simp
        try first | with_reducible rfl | simp
      simp only [Act.put, List.setIfInBounds_toArray, List.set_cons_zero, List.set_cons_succ]
      refine RX.seqP_value (fun _ => Below.refl _ _) _ (by first | rfl | simp) (fun w' hw' hctx => ?_) ?_
      · go_simp
        try first | with_reducible rfl | simp
      simp only [Act.put, List.setIfInBounds_toArray, List.set_cons_zero, List.set_cons_succ]
      refine RX.seqP_value (fun _ => Below.refl _ _) _ (by first | rfl | simp) (fun w' hw' hctx => ?_) ?_
      · go_simp
        try first | with_reducible rfl | simp
      simp only [Act.put, List.setIfInBounds_toArray, List.set_cons_zero, List.set_cons_succ]
      refine RX.seqP_value (fun _ => Below.refl _ _) _ (by first | rfl | simp) (fun w' hw' hctx => ?_) ?_
      · go_simp
        try first | with_reducible rfl | simp
      simp only [Act.put, List.setIfInBounds_toArray, List.set_cons_zero, List.set_cons_succ]
      refine RX.seqP_value (fun _ => Below.refl _ _) _ (by first | rfl | simp) (fun w' hw' hctx => ?_) ?_
      · go_simp
        try first | with_reducible rfl | simp
      simp only [Act.put, List.setIfInBounds_toArray, List.set_cons_zero, List.set_cons_succ]
      refine RX.seqP_value (fun _ => Below.refl _ _) _ (by first | rfl | simp) (fun w' hw' hctx => ?_) ?_
      · obtain ⟨j0, j1⟩ := HCX.out w' (below_tr hdr6 hw')
        go_simp
        try first | with_reducible rfl | simp
      simp only [Act.put, List.setIfInBounds_toArray, List.set_cons_zero, List.set_cons_succ]
      refine RX.seqP_value (fun _ => Below.refl _ _) _ (by first | rfl | simp) (fun w' hw' hctx => ?_) ?_
      · go_simp
        try first | with_reducible rfl | simp
      simp only [Act.put, List.setIfInBounds_toArray, List.set_cons_zero, List.set_cons_succ]
      refine RX.seqP_value (fun _ => Below.refl _ _) _ (by first | rfl | simp) (fun w' hw' hctx => ?_) ?_
      · go_simp
        try first | with_reducible rfl | simp
      simp only [Act.put, List.setIfInBounds_toArray, List.set_cons_zero, List.set_cons_succ]
      refine RX.seqP_value (fun _ => Below.refl _ _) _ (by first | rfl | simp) (fun w' hw' hctx => ?_) ?_
      · have hjj : (2 : Int) * (p : Int) = (j : Int) := by omega
        have hjw : IntKind.i64.wrap (j : Int) = (j : Int) := wrapI (by unfold I64; omega)
        go_simp
        try first | with_reducible rfl | simp
      simp only [Act.put, List.setIfInBounds_toArray, List.set_cons_zero, List.set_cons_succ]
      refine RX.seqP_value (fun _ => Below.refl _ _) _ (by first | rfl | simp) (fun w' hw' hctx => ?_) ?_
      · have hjw : IntKind.i64.wrap ((j : Int) + 1) = (j : Int) + 1 := wrapI (by unfold I64; omega)
        go_simp
        try first | with_reducible rfl | simp
      simp only [Act.put, List.setIfInBounds_toArray, List.set_cons_zero, List.set_cons_succ]
      refine RX.seqP_value (fun _ => Below.refl _ _) _ (by first | rfl | simp) (fun w' hw' hctx => ?_) ?_
      · go_simp
        try first | with_reducible rfl | simp
      simp only [Act.put, List.setIfInBounds_toArray, List.set_cons_zero, List.set_cons_succ]
      refine RX.seqP_value (fun _ => Below.refl _ _) _ (by first | rfl | simp) (fun w' hw' hctx => ?_) ?_
      · obtain ⟨j0, j1⟩ := HCY.out w' (below_tr hdr6 hw')
        go_simp
        try first | with_reducible rfl | simp
      simp only [Act.put, List.setIfInBounds_toArray, List.set_cons_zero, List.set_cons_succ]
      refine RX.seqP_value (fun _ => Below.refl _ _) _ (by first | rfl | simp) (fun w' hw' hctx => ?_) ?_
      · go_simp
        try first | with_reducible rfl | simp
      simp only [Act.put, List.setIfInBounds_toArray, List.set_cons_zero, List.set_cons_succ]
      refine RX.seqP_value (fun _ => Below.refl _ _) _ (by first | rfl | simp) (fun w' hw' hctx => ?_) ?_
      · go_simp
        try first | with_reducible rfl | simp
      simp only [Act.put, List.setIfInBounds_toArray, List.set_cons_zero, List.set_cons_succ]
      refine RX.seqP_nil (fun w2 hR hctx _ => ?_)
      have hv2 := below_tr hdr6 hR
      clear hctx hR
      have BW2 := Lib.hid (below_tr BW.out hv2)
      clear hv2
      go_wp2_with fail
      go_roundg (n - (p + 1))
      case measure => omega
      case rel => exact ⟨p + 1, by go_num, by omega, Nat.le_refl _, BW2⟩
    · have hltz : ¬ (p : Int) < (n : Int) := by omega
      go_wp2_with fail
      go_ret
      exact ⟨rfl, BW.out⟩

end Go.Proofs.Ytfikaccgpjiedaa

/-
  works: whether the examples are as they are told.
-/
namespace Go.Proofs.Ytfikaccgpjiedaa
open Go.RowKit Go.Lib

theorem own_find {T : TreeSpec} {w W : World} {g : Nat} {L : List Ent} {F : Nat → Prop} (h : Own1 T w g L F W) (a : Option Addr) (c n : Nat) (key : List Val) (ids : List Int) (m : Nat) (hn : key.length = n) (h7 : n ≤ 7500) (hL : L.length ≤ 2000) (hk : SlL W a c key) (hi : idsOf key L = ids) (hm : ids.length = m) :
    Calls Try.prog 23 #[nodeV g, .slice a n c] W fun e w' => ∃ a1 c1, e = .returned (.slice a1 m c1) ∧ Below W.heap.size W w' ∧ SlI w' a1 c1 ids := by
  subst hi hm
  refine (T.find_is W g L F a c n key hn h7 hL hk h.is).mono ?_
  rintro e w' ⟨a1, c1, rfl, h1, h2⟩
  exact ⟨a1, c1, rfl, h2, h1⟩

theorem own_walk {T : TreeSpec} {w W : World} {g : Nat} {L : List Ent} {F : Nat → Prop} (h : Own1 T w g L F W) (a a' : Option Addr) (c c' n n' : Nat) (lo hi : List Val) (X : List Ent) (m : Nat) (h1 : lo.length = n) (h2 : hi.length = n') (h7 : n ≤ 7500) (h8 : n' ≤ 7500) (hL : L.length ≤ 2000) (hk : SlL W a c lo) (hk' : SlL W a' c' hi) (hX : walkE lo hi L = X) (hm : X.length = m) :
    Calls Try.prog 16 #[nodeV g, .slice a n c, .slice a' n' c'] W fun e w' => ∃ a1 c1, e = .returned (.slice a1 m c1) ∧ Below W.heap.size W w' ∧ SlEn (fun k => W.heap.size ≤ k ∧ k < w'.heap.size) w' a1 c1 X := by
  subst hX hm
  refine (T.walk_is W g L F a a' c c' n n' lo hi h1 h2 h7 h8 hL hk hk' h.is).mono ?_
  rintro e w' ⟨a1, c1, rfl, q1, q2⟩
  exact ⟨a1, c1, rfl, q2, q1⟩

theorem own_len {T : TreeSpec} {w W : World} {g : Nat} {L : List Ent} {F : Nat → Prop} (h : Own1 T w g L F W) (m : Nat) (hL : L.length ≤ 2000) (hm : L.length = m) : Calls Try.prog 14 #[nodeV g] W fun e w' => e = .returned (.int .i64 (m : Int)) ∧ Below W.heap.size W w' := by
  subst hm
  exact T.len_is W g L F hL h.is
theorem own_well {T : TreeSpec} {w W : World} {g : Nat} {L : List Ent} {F : Nat → Prop} (h : Own1 T w g L F W) (hL : L.length ≤ 2000) : Calls Try.prog 12 #[nodeV g] W fun e w' => e = .returned (.bool true) ∧ Below W.heap.size W w' := T.well_is W g L F hL h.is
theorem own_height {T : TreeSpec} {w W : World} {g : Nat} {L : List Ent} {F : Nat → Prop} (h : Own1 T w g L F W) (hL : L.length ≤ 2000) : Calls Try.prog 15 #[nodeV g] W fun e w' => ∃ k : Nat, e = .returned (.int .i64 (k : Int)) ∧ Below W.heap.size W w' ∧ HighOk L.length k := by
  refine (T.height_is W g L F hL h.is).mono ?_
  rintro e w' ⟨k, rfl, h1, h2⟩
  exact ⟨k, rfl, h2, h1⟩

theorem high_one {k : Nat} (h : HighOk 1 k) : k = 1 := by
  rcases h with ⟨h, _⟩ | ⟨m, rfl, h1, h2⟩
  · omega
  · cases m with
    | zero => rfl
    | succ m =>
      have : 4 ^ (m + 1) = 4 ^ m * 4 := Nat.pow_succ ..
      have : 0 < 4 ^ m := Nat.pow_pos (by omega)
      omega
theorem high_none {k : Nat} (h : HighOk 0 k) : k = 0 := by
  rcases h with ⟨_, h⟩ | ⟨m, rfl, h1, h2⟩
  · exact h
  · have : 0 < 4 ^ m := Nat.pow_pos (by omega)
    omega

theorem i64_of {x : Int} (h : decide (-9223372036854775808 ≤ x ∧ x ≤ 9223372036854775807) = true) : I64 x := by unfold I64; simpa using h

set_option maxRecDepth 100000 in
set_option maxHeartbeats 4000000 in
theorem works_is (T : TreeSpec) (w : World) : Calls Try.prog 7 #[] w fun e w' => e = .returned (.bool true) ∧ Below w.heap.size w w' := by
  go_enter Try.func7, Try.ntmps7
  have B1 : Hid (Below w.heap.size w w) := Lib.hid (Below.refl _ _)
  have hcon := own_new T w _ B1.out
  go_wp2_with fail
  refine (show Calls Try.prog _ _ _ _ from hcon).mono ?_
  rintro e w1 ⟨g, F0, rfl, hb1, hO, hF⟩
  have B2 := Lib.hid (below_tr B1.out hb1)
  clear B1
  clear hcon hb1
  have t_n1 := Lib.hid hO
  clear hO
  clear hF
  unfold nodeV
  have HW3 := Lib.hid (T.lt (t_n1.out).is)
  have hcon := one_is 1 (i64_of (by decide)) w1
  go_wp2_with fail
  refine (show Calls Try.prog _ _ _ _ from hcon).mono ?_
  rintro e w2 ⟨a1, c1, rfl, hs, hb2⟩
  have t_4 := Lib.hid (t_n1.out.below hb2)
  have B4 := Lib.hid (below_tr B2.out hb2)
  clear t_n1 B2
  clear hcon hb2
  have k1_n2 := Lib.hid hs
  clear hs
  have hcon := own_put1 t_4.out HW3.out (B4.out).size a1 c1 1 5 true [⟨[vn 1], 5⟩] (by simp) k1_n2.out (i64_of (by decide)) (by decide +kernel) (by decide +kernel)
  unfold nodeV at hcon
  go_wp2_with fail
  refine (show Calls Try.prog _ _ _ _ from hcon).mono ?_
  rintro e w3 ⟨rfl, F1, hu3⟩
  have B5 := Lib.hid (hu3.bel t_4.out B4.out)
  have t_p5 := Lib.hid hu3.own
  have HU3 := Lib.hid hu3
  clear hcon hu3 B4 t_4 k1_n2
  have HW6 := Lib.hid (T.lt (t_p5.out).is)
  have hcon := one_is 1 (i64_of (by decide)) w3
  go_wp2_with fail
  refine (show Calls Try.prog _ _ _ _ from hcon).mono ?_
  rintro e w4 ⟨a2, c2, rfl, hs, hb4⟩
  have t_7 := Lib.hid (t_p5.out.below hb4)
  have B7 := Lib.hid (below_tr B5.out hb4)
  clear t_p5 B5
  clear hcon hb4
  have k2_n4 := Lib.hid hs
  clear hs
  have hcon := own_put1 t_7.out HW6.out (B7.out).size a2 c2 1 5 false [⟨[vn 1], 5⟩] (by simp) k2_n4.out (i64_of (by decide)) (by decide +kernel) (by decide +kernel)
  unfold nodeV at hcon
  go_wp2_with fail
  refine (show Calls Try.prog _ _ _ _ from hcon).mono ?_
  rintro e w5 ⟨rfl, F2, hu5⟩
  have B8 := Lib.hid (hu5.bel t_7.out B7.out)
  have t_p8 := Lib.hid hu5.own
  have HU5 := Lib.hid hu5
  clear hcon hu5 B7 t_7 k2_n4
  have hcon := one_is 1 (i64_of (by decide)) w5
  go_wp2_with fail
  refine (show Calls Try.prog _ _ _ _ from hcon).mono ?_
  rintro e w6 ⟨a3, c3, rfl, hs, hb6⟩
  have t_9 := Lib.hid (t_p8.out.below hb6)
  have B9 := Lib.hid (below_tr B8.out hb6)
  clear t_p8 B8
  clear hcon hb6
  have k3_n6 := Lib.hid hs
  clear hs
  have hcon := own_find t_9.out a3 c3 1 [vn 1] [5] 1 rfl (by omega) (by simp) (k3_n6.out).sl (by decide +kernel) rfl
  unfold nodeV at hcon
  go_wp2_with fail
  refine (show Calls Try.prog _ _ _ _ from hcon).mono ?_
  rintro e w7 ⟨a4, c4, rfl, hb7, hs⟩
  have t_10 := Lib.hid (t_9.out.below hb7)
  have k3_10 := Lib.hid (k3_n6.out.below hb7)
  have B10 := Lib.hid (below_tr B9.out hb7)
  clear t_9 k3_n6 B9
  clear hcon hb7
  have ids_n7 := Lib.hid hs
  clear hs
  clear k3_10
  have n11 := newIg w7 (w7.heap.size) (by rfl) [5] (alli64 (by decide)) (by simp)
  have n11b := Below.allocs w7 (.cells (([5] : List Int).map (Value.int .i64)).toArray 3)
  have t_12 := Lib.hid (t_10.out.below n11b)
  have ids_12 := Lib.hid (ids_n7.out.below n11b)
  have B12 := Lib.hid (below_tr B10.out n11b)
  clear t_10 ids_n7 B10
  have lit_12 := Lib.hid n11
  clear n11 n11b
  have hcon := ints_is a4 (some ⟨w7.heap.size, 0, none⟩) c4 1 1 1 [5] [5] true rfl rfl (by decide) _ ids_12.out lit_12.out
  go_wp2_with fail
  refine (show Calls Try.prog _ _ _ _ from hcon).mono ?_
  rintro e w8 ⟨rfl, hb8⟩
  have t_13 := Lib.hid (t_12.out.below hb8)
  have ids_13 := Lib.hid (ids_12.out.below hb8)
  have lit_13 := Lib.hid (lit_12.out.below hb8)
  have B13 := Lib.hid (below_tr B12.out hb8)
  clear t_12 ids_12 lit_12 B12
  clear hcon hb8
  clear ids_13
  clear lit_13
  have hcon := own_height t_13.out (by simp)
  unfold nodeV at hcon
  go_wp2_with fail
  refine (show Calls Try.prog _ _ _ _ from hcon).mono ?_
  rintro e w9 ⟨h, rfl, hb9, hh⟩
  have t_14 := Lib.hid (t_13.out.below hb9)
  have B14 := Lib.hid (below_tr B13.out hb9)
  clear t_13 B13
  clear hcon hb9
  obtain rfl : h = 1 := high_one hh
  clear hh
  have HW15 := Lib.hid (T.lt (t_14.out).is)
  have hcon := one_is 2 (i64_of (by decide)) w9
  go_wp2_with fail
  refine (show Calls Try.prog _ _ _ _ from hcon).mono ?_
  rintro e w10 ⟨a5, c5, rfl, hs, hb10⟩
  have t_16 := Lib.hid (t_14.out.below hb10)
  have B16 := Lib.hid (below_tr B14.out hb10)
  clear t_14 B14
  clear hcon hb10
  have k5_n10 := Lib.hid hs
  clear hs
  have hcon := own_put1 t_16.out HW15.out (B16.out).size a5 c5 2 1 true [⟨[vn 1], 5⟩, ⟨[vn 2], 1⟩] (by simp) k5_n10.out (i64_of (by decide)) (by decide +kernel) (by decide +kernel)
  unfold nodeV at hcon
  go_wp2_with fail
  refine (show Calls Try.prog _ _ _ _ from hcon).mono ?_
  rintro e w11 ⟨rfl, F3, hu11⟩
  have B17 := Lib.hid (hu11.bel t_16.out B16.out)
  have t_p17 := Lib.hid hu11.own
  have HU11 := Lib.hid hu11
  clear hcon hu11 B16 t_16 k5_n10
  have HW18 := Lib.hid (T.lt (t_p17.out).is)
  have hcon := one_is 1 (i64_of (by decide)) w11
  go_wp2_with fail
  refine (show Calls Try.prog _ _ _ _ from hcon).mono ?_
  rintro e w12 ⟨a6, c6, rfl, hs, hb12⟩
  have t_19 := Lib.hid (t_p17.out.below hb12)
  have B19 := Lib.hid (below_tr B17.out hb12)
  clear t_p17 B17
  clear hcon hb12
  have k6_n12 := Lib.hid hs
  clear hs
  have hcon := own_put1 t_19.out HW18.out (B19.out).size a6 c6 1 9 true [⟨[vn 1], 5⟩, ⟨[vn 1], 9⟩, ⟨[vn 2], 1⟩] (by simp) k6_n12.out (i64_of (by decide)) (by decide +kernel) (by decide +kernel)
  unfold nodeV at hcon
  go_wp2_with fail
  refine (show Calls Try.prog _ _ _ _ from hcon).mono ?_
  rintro e w13 ⟨rfl, F4, hu13⟩
  have B20 := Lib.hid (hu13.bel t_19.out B19.out)
  have t_p20 := Lib.hid hu13.own
  have HU13 := Lib.hid hu13
  clear hcon hu13 B19 t_19 k6_n12
  have hcon := own_walk t_p20.out none none 0 0 0 0 [] [] (pe [(1, 5), (1, 9), (2, 1)]) 3 rfl rfl (by omega) (by omega) (by simp) (SlL.nil _ none 0 (Nat.zero_le _)) (SlL.nil _ none 0 (Nat.zero_le _)) (by decide +kernel) rfl
  unfold nodeV at hcon
  go_wp2_with fail
  refine (show Calls Try.prog _ _ _ _ from hcon).mono ?_
  rintro e w14 ⟨a7, c7, rfl, hb14, hs⟩
  have t_21 := Lib.hid (t_p20.out.below hb14)
  have B21 := Lib.hid (below_tr B20.out hb14)
  clear t_p20 B20
  clear hcon hb14
  have en_n14 := Lib.hid hs
  clear hs
  have n22 := newIg w14 (w14.heap.size) (by rfl) [1, 5, 1, 9, 2, 1] (alli64 (by decide)) (by simp)
  have n22b := Below.allocs w14 (.cells (([1, 5, 1, 9, 2, 1] : List Int).map (Value.int .i64)).toArray 3)
  have t_23 := Lib.hid (t_21.out.below n22b)
  have en_23 := Lib.hid (en_n14.out.below n22b)
  have B23 := Lib.hid (below_tr B21.out n22b)
  clear t_21 en_n14 B21
  have lit_23 := Lib.hid n22
  clear n22 n22b
  have hcon := is_is [(1, 5), (1, 9), (2, 1)] (by intro p hp; simp at hp; rcases hp with rfl | rfl | rfl <;> exact ⟨i64_of (by decide), i64_of (by decide)⟩) (by simp) _ a7 (some ⟨w14.heap.size, 0, none⟩) c7 6 3 6 rfl rfl _ en_23.out (show SlI _ _ _ (pw [(1, 5), (1, 9), (2, 1)]) from lit_23.out)
  go_wp2_with fail
  refine (show Calls Try.prog _ _ _ _ from hcon).mono ?_
  rintro e w15 ⟨rfl, hb15⟩
  have t_24 := Lib.hid (t_23.out.below hb15)
  have en_24 := Lib.hid (en_23.out.below hb15)
  have lit_24 := Lib.hid (lit_23.out.below hb15)
  have B24 := Lib.hid (below_tr B23.out hb15)
  clear t_23 en_23 lit_23 B23
  clear hcon hb15
  clear en_24
  clear lit_24
  have hcon := one_is 1 (i64_of (by decide)) w15
  go_wp2_with fail
  refine (show Calls Try.prog _ _ _ _ from hcon).mono ?_
  rintro e w16 ⟨a8, c8, rfl, hs, hb16⟩
  have t_25 := Lib.hid (t_24.out.below hb16)
  have B25 := Lib.hid (below_tr B24.out hb16)
  clear t_24 B24
  clear hcon hb16
  have k8_n16 := Lib.hid hs
  clear hs
  have hcon := one_is 2 (i64_of (by decide)) w16
  go_wp2_with fail
  refine (show Calls Try.prog _ _ _ _ from hcon).mono ?_
  rintro e w17 ⟨a9, c9, rfl, hs, hb17⟩
  have t_26 := Lib.hid (t_25.out.below hb17)
  have k8_26 := Lib.hid (k8_n16.out.below hb17)
  have B26 := Lib.hid (below_tr B25.out hb17)
  clear t_25 k8_n16 B25
  clear hcon hb17
  have k9_n17 := Lib.hid hs
  clear hs
  have hcon := own_walk t_26.out a8 a9 c8 c9 1 1 [vn 1] [vn 2] (pe [(1, 5), (1, 9)]) 2 rfl rfl (by omega) (by omega) (by simp) (k8_26.out).sl (k9_n17.out).sl (by decide +kernel) rfl
  unfold nodeV at hcon
  go_wp2_with fail
  refine (show Calls Try.prog _ _ _ _ from hcon).mono ?_
  rintro e w18 ⟨b7, d7, rfl, hb18, hs⟩
  have t_27 := Lib.hid (t_26.out.below hb18)
  have k8_27 := Lib.hid (k8_26.out.below hb18)
  have k9_27 := Lib.hid (k9_n17.out.below hb18)
  have B27 := Lib.hid (below_tr B26.out hb18)
  clear t_26 k8_26 k9_n17 B26
  clear hcon hb18
  have en_n18 := Lib.hid hs
  clear hs
  clear k8_27
  clear k9_27
  have n28 := newIg w18 (w18.heap.size) (by rfl) [1, 5, 1, 9] (alli64 (by decide)) (by simp)
  have n28b := Below.allocs w18 (.cells (([1, 5, 1, 9] : List Int).map (Value.int .i64)).toArray 3)
  have t_29 := Lib.hid (t_27.out.below n28b)
  have en_29 := Lib.hid (en_n18.out.below n28b)
  have B29 := Lib.hid (below_tr B27.out n28b)
  clear t_27 en_n18 B27
  have lit_29 := Lib.hid n28
  clear n28 n28b
  have hcon := is_is [(1, 5), (1, 9)] (by intro p hp; simp at hp; rcases hp with rfl | rfl <;> exact ⟨i64_of (by decide), i64_of (by decide)⟩) (by simp) _ b7 (some ⟨w18.heap.size, 0, none⟩) d7 4 2 4 rfl rfl _ en_29.out (show SlI _ _ _ (pw [(1, 5), (1, 9)]) from lit_29.out)
  go_wp2_with fail
  refine (show Calls Try.prog _ _ _ _ from hcon).mono ?_
  rintro e w19 ⟨rfl, hb19⟩
  have t_30 := Lib.hid (t_29.out.below hb19)
  have en_30 := Lib.hid (en_29.out.below hb19)
  have lit_30 := Lib.hid (lit_29.out.below hb19)
  have B30 := Lib.hid (below_tr B29.out hb19)
  clear t_29 en_29 lit_29 B29
  clear hcon hb19
  clear en_30
  clear lit_30
  have hcon := own_len t_30.out 3 (by simp) rfl
  unfold nodeV at hcon
  go_wp2_with fail
  refine (show Calls Try.prog _ _ _ _ from hcon).mono ?_
  rintro e w20 ⟨rfl, hb20⟩
  have t_31 := Lib.hid (t_30.out.below hb20)
  have B31 := Lib.hid (below_tr B30.out hb20)
  clear t_30 B30
  clear hcon hb20
  go_wp2_with fail
  go_ret
  exact ⟨rfl, B31.out⟩

end Go.Proofs.Ytfikaccgpjiedaa

