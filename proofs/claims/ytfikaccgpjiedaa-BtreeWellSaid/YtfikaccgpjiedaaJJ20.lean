/-
  An entry is put into a node, or below it.
-/
import Derived.Test.YtfikaccgpjiedaaJJ19
import Derived.StillTailTactics
namespace Go.Proofs.Ytfikaccgpjiedaa
open Go.RowKit Go.Lib

/-- What put leaves: z: was the entry not there? -/
def PutS (h lo : Nat) (w w' : World) (K : Nat → Prop) (n : Kid h) (x : Ent) (z : Bool) : Prop :=
  ∃ (n' : Kid h) (K' : Nat → Prop), Res h w w' n n' ∧ Tree h lo (if z then 8 else 7) w' K' n' ∧ entN h n' = insS ltE x (entN h n) ∧ (∀ k, K k → K' k) ∧ ∀ k, K' k → K k ∨ w.heap.size ≤ k

def PutC (h : Nat) : Prop := ∀ (n : Nd (Kid h)) (lo : Nat) (K : Nat → Prop) (ka : Option Addr) (kc kn : Nat) (key : List Val) (id : Int) (z : Bool) (w : World), Tree (h + 1) lo 7 w K n → (h ≠ 0 → 1 ≤ lo) → key.length = kn → kn ≤ 1000000 → SlL w ka kc key → I64 id → decide ((⟨key, id⟩ : Ent) ∉ entN (h + 1) n) = z →
  Calls Try.prog 27 #[.pointer (some ⟨n.g, 0, none⟩), .agg #[.slice ka kn kc, .int .i64 id]] w fun e w' => e = .returned (.bool z) ∧ PutS (h + 1) lo w w' K n ⟨key, id⟩ z

theorem PutS.same {h lo : Nat} {w w' : World} {K : Nat → Prop} {n : Kid h} {x : Ent} (t : Tree h lo 7 w K n) (hx : x ∈ entN h n) (hb : Below w.heap.size w w') : PutS h lo w w' K n x false :=
  ⟨n, K, Res.of_below t.inn hb, t.below hb, (insS_has sloE t.srt hx).symm, fun _ h => h, fun _ h => .inl h⟩

theorem entsC_len (l : List CE) : (entsC l).length = l.length := List.length_map _
theorem ents_app (E F : List CE) (y : CE) : entsC (E ++ y :: F) = entsC E ++ y.e :: entsC F := by simp [entsC]
theorem ents_take (l : List CE) (i : Nat) : entsC (l.take i) = (entsC l).take i := by simp [entsC]
theorem ents_drop (l : List CE) (i : Nat) : entsC (l.drop i) = (entsC l).drop i := by simp [entsC]

/-- A new entry stands in a leaf. -/
theorem put_leaf {lo : Nat} {w W3 W' : World} {K : Nat → Prop} {n : Nd (Kid 0)} {i B : Nat} {y : CE} (t : Tree 1 lo 7 w K n) (hh : Here ltE (entsC n.es) y.e i) (hne : (entsC n.es)[i]? ≠ some y.e) (hB : w.heap.size ≤ B) (h3 : Below w.heap.size w W3) (hy : SlG (fun k => w.heap.size ≤ k) W3 y.a y.c y.e.key) (hid : I64 y.e.id ∧ y.e.key.length ≤ 1000000)
    (a' : Option Addr) (c' : Nat) (h3B : W3.heap.size = B) (hE : ∀ k p, SlF 2 a' c' k p → SlF 2 n.ea n.ec k p ∨ (B ≤ k ∧ k < W'.heap.size)) (tc : TouchC (own n) W3 W')
    (M : Nat) (hM : n.es.length = M) (g0 : W'.cell? ⟨n.g, 0, none⟩ = some (.slice a' (M + 1) c')) (g1 : W'.cell? ⟨n.g, 1, none⟩ = some (.slice n.ca 0 n.cc)) (er : RowS 2 W' a' (M + 1) c' (flatC (n.es.take i ++ y :: n.es.drop i))) : PutS 1 lo w W' K n y.e true := by
  have hiM : i ≤ M := by rw [← hM, ← entsC_len]; exact hh.1
  have hks : n.ks = [] := ks_leaf n
  have hs := t.inn.self
  have tw : TouchC (own n) w W' := (TouchC.of_below h3).trans tc (fun _ _ _ h => h)
  have cr : RowS 1 W' n.ca 0 n.cc ((n.ks.map (kg 0)).map nv) := by
    have := hs.cr
    rw [List.length_map, hks] at this
    have h1 : RowS 1 w n.ca 0 n.cc ((([] : List (Kid 0)).map (kg 0)).map nv) := this
    rw [hks]
    -- of no cells at all but its room
    refine ⟨rfl, h1.nc, h1.cm, fun _ h => absurd h List.not_mem_nil, ?_⟩
    rcases h1.at' with h2 | ⟨b, o, e, h2, h3, h4⟩
    · exact .inl h2
    · exact .inr ⟨b, o, e, Nat.lt_of_lt_of_le h2 tw.size, fun j u hu => by simp at hu, fun j hj => by
        obtain ⟨q1, q2⟩ := h4 j hj
        exact ⟨tw.there _ _ h2 q1, by rw [tw.fz _ _ h2]; exact q2⟩⟩
  have hlen : (n.es.take i ++ y :: n.es.drop i).length = M + 1 := by simp; omega
  have hres : Res 1 w W' n (⟨n.g, a', c', n.ca, n.cc, n.es.take i ++ y :: n.es.drop i, n.ks⟩ : Nd (Kid 0)) := up_res (h := 0) t.inn a' c' n.ca n.cc (n.es.take i ++ y :: n.es.drop i) n.ks B W'.heap.size hB (by rw [← h3B]; exact tc.size) (by rw [hks]; exact kids_nil _ _) (fun k p hx => by rw [hks] at hx; exact absurd hx (footL_nil _ _ _)) hE (fun k p hx => .inl hx) tw (M + 1) 0 hlen (by rw [hks]; rfl) g0 g1 er cr
  have hent : entsC (n.es.take i ++ y :: n.es.drop i) = insS ltE y.e (entsC n.es) := by rw [ins_at (show Srt ltE (entsC n.es) from t.srt) hh hne, ents_app, ents_take, ents_drop]
  refine ⟨_, fun k => K k ∨ (w.heap.size ≤ k ∧ k < B), hres, ⟨hres.inn, ⟨?_, ?_, fun h => absurd rfl h, fun c hc => ?_⟩, ?_, fun x hx => ?_, fun k p hf hk => ?_, fun k hk => ?_⟩, hent, fun k hk => .inl hk, fun k hk => hk.imp id And.left⟩
  · show lo ≤ (n.es.take i ++ y :: n.es.drop i).length
    have h1 : lo ≤ n.es.length := t.wf.1
    rw [hlen]; omega
  · show (n.es.take i ++ y :: n.es.drop i).length ≤ 8
    have h1 : n.es.length ≤ 7 := t.wf.2.1
    rw [hlen]; omega
  · have hc' : c ∈ n.ks := hc
    rw [hks] at hc'
    exact absurd hc' List.not_mem_nil
  · rw [show entN 1 (⟨n.g, a', c', n.ca, n.cc, n.es.take i ++ y :: n.es.drop i, n.ks⟩ : Nd (Kid 0)) = entsC (n.es.take i ++ y :: n.es.drop i) from rfl, hent]
    exact srt_insS sloE _ t.srt
  · have hx' : x ∈ n.es.take i ++ y :: n.es.drop i := hx
    have hstK : Stay K w W' := t.stayK (tw.mono fun k p _ hf => .inl hf)
    rcases List.mem_append.1 hx' with h1 | h1
    · exact ((t.key x (List.mem_of_mem_take h1)).stay hstK).mono (fun k hk => .inl hk)
    · rcases List.mem_cons.1 h1 with rfl | h1
      · refine ⟨?_, hid⟩
        have h5 : SlG (fun k => K k ∨ (w.heap.size ≤ k ∧ k < B)) W3 x.a x.c x.e.key := hy.mono (fun k hk h => .inr ⟨h, by rw [← h3B]; exact hk⟩)
        refine h5.stay (tc.stay fun k p hk hf => ?_)
        rcases hk with hk | hk
        · exact t.dis k p (.inl hf) hk
        · have := own_lt hs hf; omega
      · exact ((t.key x (List.mem_of_mem_drop h1)).stay hstK).mono (fun k hk => .inl hk)
  · have old : ∀ k p, foot 1 n k p → ¬ (K k ∨ (w.heap.size ≤ k ∧ k < B)) := fun k p hf hk => by
      rcases hk with hk | hk
      · exact t.dis k p hf hk
      · have := t.inn.lt k p hf; omega
    rcases hf with hf | ⟨c, hc, hf⟩
    · rcases hf with hf | hf | hf
      · exact old k p (.inl (.inl hf)) hk
      · rcases hE k p hf with h1 | h1
        · exact old k p (.inl (.inr (.inl h1))) hk
        · rcases hk with hk | hk
          · have := t.klt k hk; omega
          · omega
      · exact old k p (.inl (.inr (.inr hf))) hk
    · have hc' : c ∈ n.ks := hc
      rw [hks] at hc'
      exact absurd hc' List.not_mem_nil
  · rcases hk with hk | hk
    · exact Nat.lt_of_lt_of_le (t.klt k hk) tw.size
    · have := tc.size; omega

/-- A child has taken the entry; the node is mended, if need be. -/
theorem put_kid {h lo : Nat} {w W2 : World} {K : Nat → Prop} {n : Nd (Kid (h + 1))} {i : Nat} {c : Kid (h + 1)} {x : Ent} {z : Bool} (t : Tree (h + 2) lo 7 w K n) (hh : Here ltE (entsC n.es) x i) (hne : (entsC n.es)[i]? ≠ some x) (hc : n.ks[i]? = some c) (hp : PutS (h + 1) 3 w W2 K c x z) :
    ∃ (c' : Kid (h + 1)) (K' : Nat → Prop), Res (h + 2) w W2 n ({ n with ks := n.ks.take i ++ c' :: n.ks.drop (i + 1) } : Nd (Kid (h + 1))) ∧ wfN (h + 1) 3 (if z then 8 else 7) c' ∧ entN (h + 2) ({ n with ks := n.ks.take i ++ c' :: n.ks.drop (i + 1) } : Nd (Kid (h + 1))) = insS ltE x (entN (h + 2) n) ∧
      (∀ y ∈ flatN (h + 2) ({ n with ks := n.ks.take i ++ c' :: n.ks.drop (i + 1) } : Nd (Kid (h + 1))), KOk K' W2 y) ∧ (∀ k p, foot (h + 2) ({ n with ks := n.ks.take i ++ c' :: n.ks.drop (i + 1) } : Nd (Kid (h + 1))) k p → ¬ K' k) ∧ (∀ k, K' k → k < W2.heap.size) ∧ (∀ k, K k → K' k) ∧ ∀ k, K' k → K k ∨ w.heap.size ≤ k := by
  obtain ⟨c', K', r, t', he, hK1, hK2⟩ := hp
  obtain ⟨hcut, hlen⟩ := kid_cut hc
  have tck := t.kid hc
  have hcm := List.mem_of_getElem? hc
  refine ⟨c', K', Res.kid t.inn hcut r, t'.wf, ?_, keys_kid t.len hcut t.key (tck.stayK r.tc) hK1 t'.key, dis_kid t.inn hcut t.dis hK2 t'.dis, t'.klt, hK1, hK2⟩
  have hl : (n.ks.map (entN (h + 1))).length = (entsC n.es).length + 1 := by rw [List.length_map, entsC_len]; exact t.len
  have hci : (n.ks.map (entN (h + 1)))[i]? = some (entN (h + 1) c) := by simp [hc]
  have hs := t.srt
  rw [entN_node] at hs
  rw [entN_node, entN_node]
  show weave ((n.ks.take i ++ c' :: n.ks.drop (i + 1)).map (entN (h + 1))) (entsC n.es) = _
  rw [map_set_cut (entN (h + 1)) hc, weave_set _ _ _ _ hl (by rw [List.length_map]; exact (List.getElem?_eq_some_iff.1 hc).1), ins_child sloE hl hs hh hne hci, he]

/-- Mended, it is what put leaves. -/
theorem put_mended {h lo : Nat} {w W2 W3 : World} {K K' : Nat → Prop} {n n1 n' : Nd (Nd (Kid h))} {x : Ent} {lc : Nat} (t : Tree (h + 2) lo 7 w K n) (r : Res (h + 2) w W2 n n1) (he : entN (h + 2) n1 = insS ltE x (entN (h + 2) n)) (hk : ∀ y ∈ flatN (h + 2) n1, KOk K' W2 y) (hd : ∀ k p, foot (h + 2) n1 k p → ¬ K' k) (hlt : ∀ k, K' k → k < W2.heap.size)
    (hK1 : ∀ k, K k → K' k) (hK2 : ∀ k, K' k → K k ∨ w.heap.size ≤ k) (hes : n1.es = n.es) (hlc : 3 ≤ lc) (m : Mended h W2 W3 n1 n' lc) : PutS (h + 2) lo w W3 K n x true := by
  refine ⟨n', K', r.trans m.res, ⟨m.res.inn, ⟨?_, ?_, fun _ => m.len, m.wf⟩, ?_, fun y hy => ?_, m.res.disK hd hlt, fun k hk => Nat.lt_of_lt_of_le (hlt k hk) m.res.tc.size⟩, ?_, hK1, hK2⟩
  · show lo ≤ n'.es.length
    have h1 : lo ≤ n.es.length := t.wf.1
    have := m.lo3 hlc
    rw [hes] at this
    omega
  · show n'.es.length ≤ 8
    have h1 : n.es.length ≤ 7 := t.wf.2.1
    have := m.hi
    rw [hes] at this
    omega
  · show Srt ltE (entsC (flatN (h + 2) n'))
    rw [m.flat]
    have e : entsC (flatN (h + 2) n1) = insS ltE x (entN (h + 2) n) := he
    rw [e]
    exact srt_insS sloE _ t.srt
  · rw [m.flat] at hy
    exact (hk y hy).stay (m.res.tc.stay fun k p hk' hf => hd k p hf hk')
  · show entsC (flatN (h + 2) n') = _
    rw [m.flat]
    exact he

set_option maxRecDepth 100000 in
set_option maxHeartbeats 4000000 in
theorem put_leaf_is : PutC 0 := by
  intro n lo K ka kc kn key id z w t hlo hkn hk6 hsl hid hz
  have mixed : Try.prog.follows Departure.mixedOrders = true := by kernel_rfl
  have sn := t.inn.self
  obtain ⟨M, hM⟩ : ∃ M, n.es.length = M := ⟨_, rfl⟩
  obtain ⟨N, hN⟩ : ∃ N, n.ks.length = N := ⟨_, rfl⟩
  have hM7 : M ≤ 7 := by rw [← hM]; exact t.wf.2.1
  obtain ⟨i0, hh⟩ := here_of t.srtE ⟨key, id⟩
  have hi0 : i0 ≤ M := by rw [← hM, ← entsC_len]; exact hh.1
  obtain ⟨z1, hz1⟩ : ∃ z1, decide ((entsC n.es)[i0]? = some ⟨key, id⟩) = z1 := ⟨_, rfl⟩
  have hbw := Below.allocs w (.cells #[.slice ka kn kc, .int .i64 id] 37)
  have hbx := Lit.entry w ka kn kc id
  obtain ⟨V, hV⟩ : ∃ V, w.alloc (.cells #[.slice ka kn kc, .int .i64 id] 37) = V := ⟨_, rfl⟩
  rw [hV] at hbw hbx
  have hrd : ∀ W, Below V.heap.size V W → W.cell? ⟨n.g, 0, none⟩ = some (.slice n.ea M n.ec) ∧ W.cell? ⟨n.g, 1, none⟩ = some (.slice n.ca N n.cc) ∧ W.cell? ⟨w.heap.size, 0, none⟩ = some (.slice ka kn kc) ∧ W.cell? ⟨w.heap.size, 1, none⟩ = some (.int .i64 id) := fun W hb => by
    have s := (t.inn.below (below_tr hbw hb)).self
    have a0 := s.g0
    have a1 := s.g1
    rw [hM] at a0
    rw [List.length_map, hN] at a1
    obtain ⟨e0, e1, _, _⟩ := (hbx.below hb).two
    exact ⟨a0, a1, e0, e1⟩
  have hbs : ∀ W, Below V.heap.size V W → Calls Try.prog 38 #[.slice n.ea M n.ec, .agg #[.slice ka kn kc, .int .i64 id], .func (.func 39) #[] #[]] W fun e w' => e = .returned (.tuple #[.int .i64 (i0 : Int), .bool z1]) ∧ Below W.heap.size W w' := fun W hb => by
    have tb := t.below (below_tr hbw hb)
    have er := tb.inn.self.er
    rw [hM] at er
    exact bse_is n.ea ka n.ec M kc kn n.es key id i0 z1 hM (by omega) hkn W er (fun x hx => (tb.keyE x hx).1.sl) (hsl.below (below_tr hbw hb)) hh hz1
  have HT := Lib.hid t
  have HRD := Lib.hid hrd
  have HBS := Lib.hid hbs
  have HV := Lib.hid hV
  have HBW := Lib.hid hbw
  have HBX := Lib.hid hbx
  have HM := Lib.hid (And.intro hM hN)
  have HH := Lib.hid hh
  have HZ1 := Lib.hid hz1
  have HZ := Lib.hid hz
  have HSL := Lib.hid hsl
  have HKN := Lib.hid hkn
  have HID := Lib.hid hid
  obtain rfl : N = 0 := by rw [← hN, ks_leaf]; rfl
  clear t hrd hbs hV hbw hbx hM hN hh hz1 hz hsl hkn hid sn hlo
  go_enter Try.func27, Try.ntmps27
  go_wp2_with fail
  rw [HV.out]
  have hdr := below_drw V
  try simp only [List.append_eq, List.cons_append, List.nil_append]
  refine RX.wp_region_plan (fun w w' => Below w.heap.size w w') [.it (.pointer (some ⟨n.g, 0, none⟩)), .it (.pointer (some ⟨n.g, 0, none⟩)), .it (.pointer (some ⟨n.g, 0, none⟩)), .it (.slice n.ea M n.ec), .it (.agg #[.slice ka kn kc, .int .i64 id]), .it (.tuple #[.int .i64 (i0 : Int), .bool z1]), .it (.tuple #[.int .i64 (i0 : Int), .bool z1]), .it (.int .i64 (i0 : Int)), .it (.bool z1), .it (.int .i64 (i0 : Int)), .it (.bool z1)] (by kernel_rfl) (by kernel_rfl) (fun _ => Below.refl _ _) (fun _ _ _ => below_tr) ?_
  refine RX.seqP_value (fun _ => Below.refl _ _) _ (by first | rfl | simp) (fun w' hw' hctx => by (go_simp); (try first | with_reducible rfl | simp)) ?_
  simp only [Act.put, List.setIfInBounds_toArray, List.set_cons_zero, List.set_cons_succ]
  refine RX.seqP_value (fun _ => Below.refl _ _) _ (by first | rfl | simp) (fun w' hw' hctx => by (go_simp); (try first | with_reducible rfl | simp)) ?_
  simp only [Act.put, List.setIfInBounds_toArray, List.set_cons_zero, List.set_cons_succ]
  refine RX.seqP_value (fun _ => Below.refl _ _) _ (by first | rfl | simp) (fun w' hw' hctx => by (go_simp); (try first | with_reducible rfl | simp)) ?_
  simp only [Act.put, List.setIfInBounds_toArray, List.set_cons_zero, List.set_cons_succ]
  refine RX.seqP_value (fun _ => Below.refl _ _) _ (by first | rfl | simp) (fun w' hw' hctx => ?_) ?_
  · obtain ⟨a0, a1, e0, e1⟩ := HRD.out w' (below_tr hdr hw')
    go_simp
    try first | with_reducible rfl | simp
  simp only [Act.put, List.setIfInBounds_toArray, List.set_cons_zero, List.set_cons_succ]
  refine RX.seqP_value (fun _ => Below.refl _ _) _ (by first | rfl | simp) (fun w' hw' hctx => ?_) ?_
  · obtain ⟨a0, a1, e0, e1⟩ := HRD.out w' (below_tr hdr hw')
    go_simp
    try first | with_reducible rfl | simp
  simp only [Act.put, List.setIfInBounds_toArray, List.set_cons_zero, List.set_cons_succ]
  refine RX.seqP_call (38) #[.slice n.ea M n.ec, .agg #[.slice ka kn kc, .int .i64 id], .func (.func 39) #[] #[]] (.tuple #[.int .i64 (i0 : Int), .bool z1]) (by first | rfl | simp) (fun w' hw' hctx => ?_) (fun w' hw' hctx => HBS.out w' (below_tr hdr hw')) ?_
  · go_simp
  simp only [Act.put, List.setIfInBounds_toArray, List.set_cons_zero, List.set_cons_succ]
  refine RX.seqP_value (fun _ => Below.refl _ _) _ (by first | rfl | simp) (fun w' hw' hctx => by (go_simp); (try first | with_reducible rfl | simp)) ?_
  simp only [Act.put, List.setIfInBounds_toArray, List.set_cons_zero, List.set_cons_succ]
  refine RX.seqP_value (fun _ => Below.refl _ _) _ (by first | rfl | simp) (fun w' hw' hctx => by (go_simp); (try first | with_reducible rfl | simp)) ?_
  simp only [Act.put, List.setIfInBounds_toArray, List.set_cons_zero, List.set_cons_succ]
  refine RX.seqP_value (fun _ => Below.refl _ _) _ (by first | rfl | simp) (fun w' hw' hctx => by (go_simp); (try first | with_reducible rfl | simp)) ?_
  simp only [Act.put, List.setIfInBounds_toArray, List.set_cons_zero, List.set_cons_succ]
  refine RX.seqP_value (fun _ => Below.refl _ _) _ (by first | rfl | simp) (fun w' hw' hctx => by (go_simp); (try first | with_reducible rfl | simp)) ?_
  simp only [Act.put, List.setIfInBounds_toArray, List.set_cons_zero, List.set_cons_succ]
  refine RX.seqP_value (fun _ => Below.refl _ _) _ (by first | rfl | simp) (fun w' hw' hctx => by (go_simp); (try first | with_reducible rfl | simp)) ?_
  simp only [Act.put, List.setIfInBounds_toArray, List.set_cons_zero, List.set_cons_succ]
  refine RX.seqP_nil (fun v1 hR hctx _ => ?_)
  have hv1 := below_tr hdr hR
  clear hctx hR
  have HV1 := Lib.hid hv1
  clear hv1 hdr
  cases z1 with
  | true =>
    have hx : (⟨key, id⟩ : Ent) ∈ entN (1) n := by
      have h1 : (entsC n.es)[i0]? = some ⟨key, id⟩ := of_decide_eq_true HZ1.out
      have h2 := List.mem_of_getElem? h1
      exact h2
    obtain rfl : z = false := by rw [← HZ.out]; exact decide_eq_false (fun h => h hx)
    have HX := Lib.hid hx
    clear hx
    go_wp2_with fail
    go_ret
    exact ⟨rfl, PutS.same HT.out HX.out (below_tr HBW.out HV1.out)⟩
  | false =>
    have hne : (entsC n.es)[i0]? ≠ some ⟨key, id⟩ := of_decide_eq_false HZ1.out
    obtain rfl : z = true := by rw [← HZ.out]; exact decide_eq_true (not_at HT.out.srt HH.out hne)
    obtain ⟨a0, a1, e0, e1⟩ := HRD.out v1 HV1.out
    have hlf := leaf_is n.g 0 n.cc n.ca true (by decide) v1 a1
    have HNE := Lib.hid hne
    clear hne a0 e0 e1
    go_wp2_with fail
    refine hlf.mono ?_
    rintro e v2 ⟨rfl, hb2⟩
    have HV2 := Lib.hid (below_tr HV1.out hb2)
    obtain ⟨a0, a1, e0, e1⟩ := HRD.out v2 HV2.out
    have hec := fun W (hb : Below v2.heap.size v2 W) => eclone_is ka kc kn key id HKN.out hk6 W (HSL.out.below (below_tr (below_tr HBW.out HV2.out) hb))
    have HEC := Lib.hid hec
    have BW2 := Lib.hid (below_tr HBW.out HV2.out)
    have hnlt : n.g < v2.heap.size := (HT.out.inn.below BW2.out).self.lt
    have helt : w.heap.size < v2.heap.size := Nat.lt_of_lt_of_le HBX.out.lt HV2.out.size
    have HS0 : Hid (v2.drew.cell? ⟨n.g, 0, none⟩ = some (.slice n.ea M n.ec) ∧ v2.drew.cell? ⟨w.heap.size, 0, none⟩ = some (.slice ka kn kc) ∧ v2.drew.cell? ⟨w.heap.size, 1, none⟩ = some (.int .i64 id)) := Lib.hid ⟨a0, e0, e1⟩
    have HLT := Lib.hid (And.intro hnlt helt)
    clear hlf hb2 hec hnlt helt a0 e0 e1
    go_wp2_with fail
    refine RX.wp_region_lastH 10 (fun W => W.cell? ⟨n.g, 0, none⟩ = some (.slice n.ea M n.ec) ∧ W.cell? ⟨w.heap.size, 0, none⟩ = some (.slice ka kn kc) ∧ W.cell? ⟨w.heap.size, 1, none⟩ = some (.int .i64 id)) mixed (by kernel_rfl) ?_
    simp only [List.take_succ_cons, List.take_zero, List.drop_succ_cons, List.drop_zero]
    refine wpAnyH_take (i := 0) (oi := _) (v := .pointer (some ⟨n.g, 0, none⟩)) rfl (by kernel_rfl) (by kernel_rfl) (by kernel_rfl) (fun _ _ _ h => h) (Or.inl ⟨by rfl, fun w' hw' => ?_⟩) (HS0.out) ?_
    · go_simp
      try first | with_reducible rfl | simp
    refine wpAnyH_take (i := 1) (oi := _) (v := .pointer (some ⟨n.g, 0, none⟩)) rfl (by kernel_rfl) (by kernel_rfl) (by kernel_rfl) (fun _ _ _ h => h) (Or.inl ⟨by rfl, fun w' hw' => ?_⟩) (HS0.out) ?_
    · go_simp
      try first | with_reducible rfl | simp
    refine wpAnyH_take (i := 2) (oi := _) (v := .pointer (some ⟨n.g, 0, none⟩)) rfl (by kernel_rfl) (by kernel_rfl) (by kernel_rfl) (fun _ _ _ h => h) (Or.inl ⟨by rfl, fun w' hw' => ?_⟩) (HS0.out) ?_
    · go_simp
      try first | with_reducible rfl | simp
    refine wpAnyH_take (i := 3) (oi := _) (v := .pointer (some ⟨n.g, 0, none⟩)) rfl (by kernel_rfl) (by kernel_rfl) (by kernel_rfl) (fun _ _ _ h => h) (Or.inl ⟨by rfl, fun w' hw' => ?_⟩) (HS0.out) ?_
    · go_simp
      try first | with_reducible rfl | simp
    refine wpAnyH_take (i := 4) (oi := _) (v := .slice n.ea M n.ec) rfl (by kernel_rfl) (by kernel_rfl) (by kernel_rfl) (fun _ _ _ h => h) (Or.inl ⟨by rfl, fun w' hw' => ?_⟩) (HS0.out) ?_
    · obtain ⟨j0, j1, j2⟩ := hw'
      go_simp
      try first | with_reducible rfl | simp
    refine wpAnyH_take (i := 5) (oi := _) (v := .int .i64 (i0 : Int)) rfl (by kernel_rfl) (by kernel_rfl) (by kernel_rfl) (fun _ _ _ h => h) (Or.inl ⟨by rfl, fun w' hw' => ?_⟩) (HS0.out) ?_
    · go_simp
      try first | with_reducible rfl | simp
    refine wpAnyH_take (i := 6) (oi := _) (v := .agg #[.slice ka kn kc, .int .i64 id]) rfl (by kernel_rfl) (by kernel_rfl) (by kernel_rfl) (fun _ _ _ h => h) (Or.inl ⟨by rfl, fun w' hw' => ?_⟩) (HS0.out) ?_
    · obtain ⟨j0, j1, j2⟩ := hw'
      go_simp
      try first | with_reducible rfl | simp
    refine RX.anyH_call (i := 7) (f := 35) (args := #[.agg #[.slice ka kn kc, .int .i64 id]]) (by kernel_rfl) rfl (by rfl) (by go_simp) ?_
    refine (show Calls Try.prog _ _ _ _ from HEC.out _ (below_drw v2)).mono ?_
    rintro e w3 ⟨a3, c3, rfl, hy0, hb3⟩
    have HY0 := Lib.hid hy0
    have HB3 : Hid (Below v2.heap.size v2 w3) := Lib.hid (below_tr (below_drw v2) hb3)
    obtain ⟨y, hy⟩ : ∃ y : CE, y = ⟨a3, c3, ⟨key, id⟩⟩ := ⟨_, rfl⟩
    obtain rfl : a3 = y.a := by rw [hy]
    obtain rfl : c3 = y.c := by rw [hy]
    have hye : y.e = ⟨key, id⟩ := by rw [hy]
    clear hy
    have HS3 : Hid (w3.cell? ⟨n.g, 0, none⟩ = some (.slice n.ea M n.ec) ∧ w3.cell? ⟨w.heap.size, 0, none⟩ = some (.slice ka kn kc) ∧ w3.cell? ⟨w.heap.size, 1, none⟩ = some (.int .i64 id)) := Lib.hid (by
      obtain ⟨q0, q1, q2⟩ := HS0.out
      exact ⟨by rw [hb3.cell (p := ⟨n.g, 0, none⟩) HLT.out.1]; exact q0, by rw [hb3.cell (p := ⟨w.heap.size, 0, none⟩) HLT.out.2]; exact q1, by rw [hb3.cell (p := ⟨w.heap.size, 1, none⟩) HLT.out.2]; exact q2⟩)
    have hal := Below.allocs w3 (.cells #[.slice y.a kn y.c, .int .i64 id] 37)
    have HS4 : Hid ((w3.alloc (.cells #[.slice y.a kn y.c, .int .i64 id] 37)).cell? ⟨n.g, 0, none⟩ = some (.slice n.ea M n.ec) ∧ (w3.alloc (.cells #[.slice y.a kn y.c, .int .i64 id] 37)).cell? ⟨w.heap.size, 0, none⟩ = some (.slice ka kn kc) ∧ (w3.alloc (.cells #[.slice y.a kn y.c, .int .i64 id] 37)).cell? ⟨w.heap.size, 1, none⟩ = some (.int .i64 id)) := Lib.hid (by
      obtain ⟨q0, q1, q2⟩ := HS3.out
      have l1 := Nat.lt_of_lt_of_le HLT.out.1 HB3.out.size
      have l2 := Nat.lt_of_lt_of_le HLT.out.2 HB3.out.size
      exact ⟨by rw [hal.cell (p := ⟨n.g, 0, none⟩) l1]; exact q0, by rw [hal.cell (p := ⟨w.heap.size, 0, none⟩) l2]; exact q1, by rw [hal.cell (p := ⟨w.heap.size, 1, none⟩) l2]; exact q2⟩)
    have HB4 := Lib.hid (below_tr (below_tr BW2.out HB3.out) hal)
    have sn4 := (HT.out.inn.below HB4.out).self
    have er4 := sn4.er
    rw [HM.out.1] at er4
    have lv := Lit.entry w3 y.a kn y.c id
    have hins := ins_is (w3.alloc (.cells #[.slice y.a kn y.c, .int .i64 id] 37)) n.ea M n.ec i0 (flatC n.es) w3.heap.size 1 (.slice y.a kn y.c) (.int .i64 id) er4 (by omega) hi0 lv (fun b o e hb => by
      have hro := (HT.out.inn.below (below_tr BW2.out HB3.out)).self.er
      rcases hro.at' with ⟨e', _⟩ | ⟨b', o', e', hlt, _⟩
      · rw [e] at e'; cases e'
      · rw [e] at e'; cases e'; omega)
    have HINS := Lib.hid hins
    have HSI : Hid (∀ W, TouchC (SlF 2 n.ea n.ec) (w3.alloc (.cells #[.slice y.a kn y.c, .int .i64 id] 37)) W → W.cell? ⟨n.g, 0, none⟩ = some (.slice n.ea M n.ec) ∧ W.cell? ⟨w.heap.size, 0, none⟩ = some (.slice ka kn kc) ∧ W.cell? ⟨w.heap.size, 1, none⟩ = some (.int .i64 id)) := Lib.hid (fun W ht => by
      obtain ⟨q0, q1, q2⟩ := HS4.out
      have l2 := Nat.lt_of_lt_of_le HLT.out.2 (below_tr HB3.out hal).size
      have hG : ∀ p, ¬ SlF 2 n.ea n.ec w.heap.size p := fun p hx => by have := HT.out.inn.self.er.lt _ p hx; omega
      exact ⟨by rw [ht.cell n.g 0 sn4.lt (sn4.d1 n.g 0 ⟨rfl, by omega⟩)]; exact q0, by rw [ht.cell w.heap.size 0 l2 (hG 0)]; exact q1, by rw [ht.cell w.heap.size 1 l2 (hG 1)]; exact q2⟩)
    have HYE := Lib.hid hye
    clear hins er4 lv sn4 hal hb3 hy0 hye
    refine ⟨_, rfl, HS3.out, ?_⟩
    refine RX.anyH_val (i := 8) (v := .slice (some ⟨w3.heap.size, 0, none⟩) 1 1) (w' := w3.alloc (.cells #[.slice y.a kn y.c, .int .i64 id] 37)) (by kernel_rfl) rfl (by rfl) (by go_simp) (HS4.out) ?_
    refine RX.anyH_call (i := 9) (f := 41) (args := #[.slice n.ea M n.ec, .int .i64 (i0 : Int), .slice (some ⟨w3.heap.size, 0, none⟩) 1 1]) (by kernel_rfl) rfl (by rfl) (by go_simp) ?_
    refine (show Calls Try.prog _ _ _ _ from HINS.out).mono ?_
    rintro e w5 ⟨a', c', rfl, hr5, hsub5, ht5⟩
    refine ⟨_, rfl, HSI.out w5 ht5, ?_⟩
    refine wpAnyH_done (by kernel_rfl) ?_ _
    unfold RX.lastQ
    -- what holds behind it
    have t35 : TouchC (SlF 2 n.ea n.ec) w3 w5 := (TouchC.of_below (Below.allocs w3 (.cells #[.slice y.a kn y.c, .int .i64 id] 37))).trans ht5 (fun _ _ _ hx => hx)
    have sn3 := (HT.out.inn.below (below_tr BW2.out HB3.out)).self
    have hes : insC 2 (flatC n.es) i0 [.slice y.a kn y.c, .int .i64 id] = flatC (n.es.take i0 ++ y :: n.es.drop i0) := by
      have h1 := splice_ins (n.es.take i0) (n.es.drop i0) y
      rw [List.take_append_drop, List.length_take, show min i0 n.es.length = i0 by have := HM.out.1; omega, HYE.out] at h1
      have h2 : key.length = kn := HKN.out
      rw [← h2]
      exact h1
    rw [hes] at hr5
    obtain ⟨p0, _, _⟩ := HSI.out w5 ht5
    have p1 : w5.cell? ⟨n.g, 1, none⟩ = some (.slice n.ca 0 n.cc) := by
      rw [t35.cell n.g 1 sn3.lt (sn3.d1 n.g 1 ⟨rfl, by omega⟩)]
      have := sn3.g1
      rw [List.length_map, HM.out.2] at this
      exact this
    have f0 : w5.frozen? ⟨n.g, 0, none⟩ = false := by rw [t35.fz n.g 0 sn3.lt]; exact sn3.fz 0
    have hsub : ∀ k p, SlF 2 a' c' k p → SlF 2 n.ea n.ec k p ∨ (w3.heap.size ≤ k ∧ k < w5.heap.size) := fun k p hx => by
      have hlt := hr5.lt k p hx
      rcases hsub5 k p hx with hy | hy
      · exact .inl hy
      · refine .inr ⟨?_, hlt⟩
        have : (w3.alloc (.cells #[.slice y.a kn y.c, .int .i64 id] 37)).heap.size ≤ k := hy
        rw [World.size_alloc] at this
        omega
    obtain ⟨W6, hW6⟩ : ∃ W6, w5.setCell ⟨n.g, 0, none⟩ (.slice a' (M + 1) c') = W6 := ⟨_, rfl⟩
    have t56 : TouchC (Hd n.g 2) w5 W6 := by rw [← hW6]; exact (TouchC.refl _ _).setCell ⟨rfl, by omega⟩ _
    have t36 : TouchC (own n) w3 W6 := t35.two t56 (fun _ _ _ h => .inr (.inl h)) (fun _ _ _ h => .inl h)
    have z56 : W6.heap.size = w5.heap.size := by rw [← hW6]; simp [World.setCell]
    have er6 : RowS 2 W6 a' (M + 1) c' (flatC (n.es.take i0 ++ y :: n.es.drop i0)) := hr5.touch t56 (fun k p hx hy => by
      rcases hsub k p hx with h1 | h1
      · exact sn3.d1 k p hy h1
      · have := hy.1; have := sn3.lt; omega)
    have g0 : W6.cell? ⟨n.g, 0, none⟩ = some (.slice a' (M + 1) c') := by rw [← hW6]; exact World.cell?_setCell_same _ _ _ p0
    have g1 : W6.cell? ⟨n.g, 1, none⟩ = some (.slice n.ca 0 n.cc) := by rw [← hW6, World.cell?_setCell_other _ _ _ _ (by simp)]; exact p1
    have hend := put_leaf (y := y) (B := w3.heap.size) (W3 := w3) (W' := W6) HT.out (by rw [HYE.out]; exact HH.out) (by rw [HYE.out]; exact HNE.out) (below_tr BW2.out HB3.out).size (below_tr BW2.out HB3.out) (by
      rw [HYE.out]
      exact HY0.out.mono (fun k _ hk => Nat.le_trans BW2.out.size hk)) (by rw [HYE.out]; exact ⟨HID.out, Nat.le_trans (Nat.le_of_eq HKN.out) hk6⟩) a' c' rfl (by rw [z56]; exact hsub) t36 M HM.out.1 g0 g1 er6
    rw [HYE.out] at hend
    have HEND := Lib.hid hend
    have HW6 := Lib.hid hW6
    clear hend hW6 t56 t36 er6 g0 g1 hsub hes hr5 hsub5 ht5 t35 sn3 p1 z56
    go_wp2_with fail
    rw [HW6.out]
    go_ret
    exact ⟨rfl, HEND.out⟩

set_option maxRecDepth 100000 in
set_option maxHeartbeats 4000000 in
theorem put_node_is (h : Nat) (ih : PutC h) : PutC (h + 1) := by
  intro n lo K ka kc kn key id z w t hlo hkn hk6 hsl hid hz
  have mixed : Try.prog.follows Departure.mixedOrders = true := by kernel_rfl
  have sn := t.inn.self
  obtain ⟨M, hM⟩ : ∃ M, n.es.length = M := ⟨_, rfl⟩
  obtain ⟨N, hN⟩ : ∃ N, n.ks.length = N := ⟨_, rfl⟩
  have hM7 : M ≤ 7 := by rw [← hM]; exact t.wf.2.1
  obtain ⟨i0, hh⟩ := here_of t.srtE ⟨key, id⟩
  have hi0 : i0 ≤ M := by rw [← hM, ← entsC_len]; exact hh.1
  obtain ⟨z1, hz1⟩ : ∃ z1, decide ((entsC n.es)[i0]? = some ⟨key, id⟩) = z1 := ⟨_, rfl⟩
  have hbw := Below.allocs w (.cells #[.slice ka kn kc, .int .i64 id] 37)
  have hbx := Lit.entry w ka kn kc id
  obtain ⟨V, hV⟩ : ∃ V, w.alloc (.cells #[.slice ka kn kc, .int .i64 id] 37) = V := ⟨_, rfl⟩
  rw [hV] at hbw hbx
  have hrd : ∀ W, Below V.heap.size V W → W.cell? ⟨n.g, 0, none⟩ = some (.slice n.ea M n.ec) ∧ W.cell? ⟨n.g, 1, none⟩ = some (.slice n.ca N n.cc) ∧ W.cell? ⟨w.heap.size, 0, none⟩ = some (.slice ka kn kc) ∧ W.cell? ⟨w.heap.size, 1, none⟩ = some (.int .i64 id) := fun W hb => by
    have s := (t.inn.below (below_tr hbw hb)).self
    have a0 := s.g0
    have a1 := s.g1
    rw [hM] at a0
    rw [List.length_map, hN] at a1
    obtain ⟨e0, e1, _, _⟩ := (hbx.below hb).two
    exact ⟨a0, a1, e0, e1⟩
  have hbs : ∀ W, Below V.heap.size V W → Calls Try.prog 38 #[.slice n.ea M n.ec, .agg #[.slice ka kn kc, .int .i64 id], .func (.func 39) #[] #[]] W fun e w' => e = .returned (.tuple #[.int .i64 (i0 : Int), .bool z1]) ∧ Below W.heap.size W w' := fun W hb => by
    have tb := t.below (below_tr hbw hb)
    have er := tb.inn.self.er
    rw [hM] at er
    exact bse_is n.ea ka n.ec M kc kn n.es key id i0 z1 hM (by omega) hkn W er (fun x hx => (tb.keyE x hx).1.sl) (hsl.below (below_tr hbw hb)) hh hz1
  have HT := Lib.hid t
  have HRD := Lib.hid hrd
  have HBS := Lib.hid hbs
  have HV := Lib.hid hV
  have HBW := Lib.hid hbw
  have HBX := Lib.hid hbx
  have HM := Lib.hid (And.intro hM hN)
  have HH := Lib.hid hh
  have HZ1 := Lib.hid hz1
  have HZ := Lib.hid hz
  have HSL := Lib.hid hsl
  have HKN := Lib.hid hkn
  have HID := Lib.hid hid
  have hNM : N = M + 1 := by rw [← hN, ← hM]; exact t.len
  subst hNM
  have hM1 : 1 ≤ M := by
    have h1 : lo ≤ n.es.length := t.wf.1
    have := hlo (by omega)
    omega
  clear t hrd hbs hV hbw hbx hM hN hh hz1 hz hsl hkn hid sn hlo
  go_enter Try.func27, Try.ntmps27
  go_wp2_with fail
  rw [HV.out]
  have hdr := below_drw V
  try simp only [List.append_eq, List.cons_append, List.nil_append]
  refine RX.wp_region_plan (fun w w' => Below w.heap.size w w') [.it (.pointer (some ⟨n.g, 0, none⟩)), .it (.pointer (some ⟨n.g, 0, none⟩)), .it (.pointer (some ⟨n.g, 0, none⟩)), .it (.slice n.ea M n.ec), .it (.agg #[.slice ka kn kc, .int .i64 id]), .it (.tuple #[.int .i64 (i0 : Int), .bool z1]), .it (.tuple #[.int .i64 (i0 : Int), .bool z1]), .it (.int .i64 (i0 : Int)), .it (.bool z1), .it (.int .i64 (i0 : Int)), .it (.bool z1)] (by kernel_rfl) (by kernel_rfl) (fun _ => Below.refl _ _) (fun _ _ _ => below_tr) ?_
  refine RX.seqP_value (fun _ => Below.refl _ _) _ (by first | rfl | simp) (fun w' hw' hctx => by (go_simp); (try first | with_reducible rfl | simp)) ?_
  simp only [Act.put, List.setIfInBounds_toArray, List.set_cons_zero, List.set_cons_succ]
  refine RX.seqP_value (fun _ => Below.refl _ _) _ (by first | rfl | simp) (fun w' hw' hctx => by (go_simp); (try first | with_reducible rfl | simp)) ?_
  simp only [Act.put, List.setIfInBounds_toArray, List.set_cons_zero, List.set_cons_succ]
  refine RX.seqP_value (fun _ => Below.refl _ _) _ (by first | rfl | simp) (fun w' hw' hctx => by (go_simp); (try first | with_reducible rfl | simp)) ?_
  simp only [Act.put, List.setIfInBounds_toArray, List.set_cons_zero, List.set_cons_succ]
  refine RX.seqP_value (fun _ => Below.refl _ _) _ (by first | rfl | simp) (fun w' hw' hctx => ?_) ?_
  · obtain ⟨a0, a1, e0, e1⟩ := HRD.out w' (below_tr hdr hw')
    go_simp
    try first | with_reducible rfl | simp
  simp only [Act.put, List.setIfInBounds_toArray, List.set_cons_zero, List.set_cons_succ]
  refine RX.seqP_value (fun _ => Below.refl _ _) _ (by first | rfl | simp) (fun w' hw' hctx => ?_) ?_
  · obtain ⟨a0, a1, e0, e1⟩ := HRD.out w' (below_tr hdr hw')
    go_simp
    try first | with_reducible rfl | simp
  simp only [Act.put, List.setIfInBounds_toArray, List.set_cons_zero, List.set_cons_succ]
  refine RX.seqP_call (38) #[.slice n.ea M n.ec, .agg #[.slice ka kn kc, .int .i64 id], .func (.func 39) #[] #[]] (.tuple #[.int .i64 (i0 : Int), .bool z1]) (by first | rfl | simp) (fun w' hw' hctx => ?_) (fun w' hw' hctx => HBS.out w' (below_tr hdr hw')) ?_
  · go_simp
  simp only [Act.put, List.setIfInBounds_toArray, List.set_cons_zero, List.set_cons_succ]
  refine RX.seqP_value (fun _ => Below.refl _ _) _ (by first | rfl | simp) (fun w' hw' hctx => by (go_simp); (try first | with_reducible rfl | simp)) ?_
  simp only [Act.put, List.setIfInBounds_toArray, List.set_cons_zero, List.set_cons_succ]
  refine RX.seqP_value (fun _ => Below.refl _ _) _ (by first | rfl | simp) (fun w' hw' hctx => by (go_simp); (try first | with_reducible rfl | simp)) ?_
  simp only [Act.put, List.setIfInBounds_toArray, List.set_cons_zero, List.set_cons_succ]
  refine RX.seqP_value (fun _ => Below.refl _ _) _ (by first | rfl | simp) (fun w' hw' hctx => by (go_simp); (try first | with_reducible rfl | simp)) ?_
  simp only [Act.put, List.setIfInBounds_toArray, List.set_cons_zero, List.set_cons_succ]
  refine RX.seqP_value (fun _ => Below.refl _ _) _ (by first | rfl | simp) (fun w' hw' hctx => by (go_simp); (try first | with_reducible rfl | simp)) ?_
  simp only [Act.put, List.setIfInBounds_toArray, List.set_cons_zero, List.set_cons_succ]
  refine RX.seqP_value (fun _ => Below.refl _ _) _ (by first | rfl | simp) (fun w' hw' hctx => by (go_simp); (try first | with_reducible rfl | simp)) ?_
  simp only [Act.put, List.setIfInBounds_toArray, List.set_cons_zero, List.set_cons_succ]
  refine RX.seqP_nil (fun v1 hR hctx _ => ?_)
  have hv1 := below_tr hdr hR
  clear hctx hR
  have HV1 := Lib.hid hv1
  clear hv1 hdr
  cases z1 with
  | true =>
    have hx : (⟨key, id⟩ : Ent) ∈ entN (h + 2) n := by
      have h1 : (entsC n.es)[i0]? = some ⟨key, id⟩ := of_decide_eq_true HZ1.out
      have h2 := List.mem_of_getElem? h1
      obtain ⟨y, hy, hy2⟩ := List.mem_map.1 h2
      exact List.mem_map.2 ⟨y, (mem_kid HT.out.len).2 (.inl hy), hy2⟩
    obtain rfl : z = false := by rw [← HZ.out]; exact decide_eq_false (fun h => h hx)
    have HX := Lib.hid hx
    clear hx
    go_wp2_with fail
    go_ret
    exact ⟨rfl, PutS.same HT.out HX.out (below_tr HBW.out HV1.out)⟩
  | false =>
    have hne : (entsC n.es)[i0]? ≠ some ⟨key, id⟩ := of_decide_eq_false HZ1.out
    obtain ⟨c, hc⟩ : ∃ c, n.ks[i0]? = some c := ⟨n.ks[i0]'(by rw [HM.out.2]; omega), by simp⟩
    have tc := HT.out.kid hc
    have hci : (n.ks.map (entN (h + 1)))[i0]? = some (entN (h + 1) c) := by simp [hc]
    have hzc : decide ((⟨key, id⟩ : Ent) ∉ entN (h + 1) c) = z := by
      rw [← HZ.out]
      have hs := HT.out.srt
      rw [entN_node] at hs ⊢
      have hm := mem_child sloE (by rw [List.length_map, entsC_len]; exact HT.out.len) hs HH.out hne hci
      rw [Bool.eq_iff_iff, decide_eq_true_iff, decide_eq_true_iff, hm]
    have HC := Lib.hid hc
    have HNE := Lib.hid hne
    obtain ⟨a0, a1, e0, e1⟩ := HRD.out v1 HV1.out
    have hlf := leaf_is n.g (M + 1) n.cc n.ca false (by simp) v1 a1
    have HZC := Lib.hid hzc
    have HTC := Lib.hid tc
    clear hne a0 e0 e1 hci hzc tc hc
    go_wp2_with fail
    refine hlf.mono ?_
    rintro e v2 ⟨rfl, hb2⟩
    have HV2 := Lib.hid (below_tr HV1.out hb2)
    have BW2 := Lib.hid (below_tr HBW.out HV2.out)
    obtain ⟨a0, a1, e0, e1⟩ := HRD.out v2 HV2.out
    have sn2 := (HT.out.inn.below BW2.out).self
    obtain ⟨cb, co, hca, k0, _, klt⟩ := kid_at sn2.cr (i := i0) (g := kg (h + 1) c) (by simp [HC.out])
    rw [hca] at a1
    have hnlt := sn2.lt
    have helt : w.heap.size < v2.heap.size := Nat.lt_of_lt_of_le HBX.out.lt HV2.out.size
    have hiz : (i0 : Int) < (M : Int) + 1 := by omega
    have hput := fun W (hb : Below v2.heap.size v2 W) => ih c 3 K ka kc kn key id z W (HTC.out.below (below_tr BW2.out hb)) (fun _ => by omega) HKN.out hk6 (HSL.out.below (below_tr BW2.out hb)) HID.out HZC.out
    have HPUT := Lib.hid hput
    clear hlf hb2 hput sn2 hca
    go_wp2_with fail
    go_still_tail 8, (by kernel_rfl)
    change wpList _ _ _ _ _ v2.drew
    have hp2 := HPUT.out v2.drew (below_drw v2)
    have BW3 := Lib.hid (below_tr BW2.out (below_drw v2))
    clear a0 a1 e0 e1 k0 klt hnlt helt hiz HPUT
    generalize v2.drew = W3 at hp2 BW3 ⊢
    have HP2 : Hid (Calls Try.prog 27 #[.pointer (some ⟨kg (h + 1) c, 0, none⟩), .agg #[.slice ka kn kc, .int .i64 id]] W3 fun e w' => e = .returned (.bool z) ∧ PutS (h + 1) 3 W3 w' K c ⟨key, id⟩ z) := Lib.hid hp2
    clear hp2
    go_wp2_with fail
    refine (show Calls Try.prog _ _ _ _ from HP2.out).mono ?_
    rintro e w4 ⟨rfl, hS⟩
    obtain ⟨c', K', p1, p2, p3, p4, p5, p6, p7, p8⟩ := put_kid (HT.out.below BW3.out) HH.out HNE.out HC.out hS
    have p1' := Res.from HT.out.inn BW3.out p1
    have HQ := Lib.hid (And.intro p1' (And.intro p2 (And.intro p3 (And.intro p4 (And.intro p5 (And.intro p6 (And.intro p7 p8)))))))
    clear hS p1 p1' p2 p3 p4 p5 p6 p7 p8 HP2
    cases z with
    | false =>
      go_wp2_with fail
      go_ret
      obtain ⟨p1, p2, p3, p4, p5, p6, p7, p8⟩ := HQ.out
      refine ⟨rfl, _, K', p1, ⟨p1.inn, ⟨HT.out.wf.1, HT.out.wf.2.1, fun _ => ?_, fun d hd => ?_⟩, ?_, p4, p5, p6⟩, p3, p7, fun k hk => (p8 k hk).imp (fun h => h) (Nat.le_trans BW3.out.size)⟩
      · show (n.ks.take i0 ++ c' :: n.ks.drop (i0 + 1)).length = n.es.length + 1
        rw [← HT.out.len]
        have := (List.getElem?_eq_some_iff.1 HC.out).1
        simp
        omega
      · have hd' : d ∈ n.ks.take i0 ++ c' :: n.ks.drop (i0 + 1) := hd
        rcases List.mem_append.1 hd' with hd' | hd'
        · exact HT.out.wf.2.2.2 d (List.mem_of_mem_take hd')
        · rcases List.mem_cons.1 hd' with rfl | hd'
          · exact p2
          · exact HT.out.wf.2.2.2 d (List.mem_of_mem_drop hd')
      · rw [p3]
        exact srt_insS sloE _ HT.out.srt
    | true =>
      have hcut := kid_cut HC.out
      have htorn : Torn h w4 ({ n with ks := n.ks.take i0 ++ c' :: n.ks.drop (i0 + 1) } : Nd (Nd (Kid h))) (n.ks.take i0) (n.ks.drop (i0 + 1)) c' i0 8 := by
        obtain ⟨p1, p2, p3, p4, p5, p6, p7, p8⟩ := HQ.out
        refine ⟨p1.inn, rfl, hcut.2, ?_, ?_, fun d hd => ?_, wfN_mono p2 (by omega) (Nat.le_refl _)⟩
        · show (n.ks.take i0 ++ c' :: n.ks.drop (i0 + 1)).length = n.es.length + 1
          rw [← HT.out.len]
          have := (List.getElem?_eq_some_iff.1 HC.out).1
          simp
          omega
        · show n.es.length ≤ 20
          have := HM.out.1; omega
        · rcases List.mem_append.1 hd with hd | hd
          · exact HT.out.wf.2.2.2 d (List.mem_of_mem_take hd)
          · exact HT.out.wf.2.2.2 d (List.mem_of_mem_drop hd)
      have hmend := mend_is h _ _ _ _ i0 w4 htorn (by show 1 ≤ n.es.length; have := HM.out.1; omega)
      have HMD : Hid (Calls Try.prog 42 #[.pointer (some ⟨n.g, 0, none⟩), .int .i64 (i0 : Int)] w4 fun e w' => e = .returned (.tuple #[]) ∧ ∃ n', Mended h w4 w' ({ n with ks := n.ks.take i0 ++ c' :: n.ks.drop (i0 + 1) } : Nd (Nd (Kid h))) n' (Nd.es (κ := Kid h) c').length) := Lib.hid hmend
      clear hcut htorn hmend
      go_wp2_with fail
      refine (show Calls Try.prog _ _ _ _ from HMD.out).mono ?_
      rintro e w6 ⟨rfl, n6, hmd⟩
      have HM6 := Lib.hid hmd
      clear hmd
      go_wp2_with fail
      go_ret
      obtain ⟨p1, p2, p3, p4, p5, p6, p7, p8⟩ := HQ.out
      have h3 : 3 ≤ (Nd.es (κ := Kid h) c').length := p2.1
      exact ⟨rfl, put_mended HT.out p1 p3 p4 p5 p6 p7 (fun k hk => (p8 k hk).imp (fun h => h) (Nat.le_trans BW3.out.size)) rfl h3 HM6.out⟩

theorem put_is : ∀ h, PutC h
  | 0 => put_leaf_is
  | h + 1 => put_node_is h (put_is h)

end Go.Proofs.Ytfikaccgpjiedaa

/-
  The last entry of a node, and of all below it, is taken out.
-/
namespace Go.Proofs.Ytfikaccgpjiedaa
open Go.RowKit Go.Lib

def PopS (h lo : Nat) (w w' : World) (K : Nat → Prop) (n : Kid h) (x : CE) : Prop := ∃ n' : Kid h, Res h w w' n n' ∧ Tree h (lo - 1) 7 w' K n' ∧ flatN h n = flatN h n' ++ [x]

def PopC (h : Nat) : Prop := ∀ (n : Nd (Kid h)) (lo : Nat) (K : Nat → Prop) (w : World), Tree (h + 1) lo 7 w K n → 1 ≤ lo →
  Calls Try.prog 45 #[.pointer (some ⟨n.g, 0, none⟩)] w fun e w' => ∃ x : CE, e = .returned (.agg #[.slice x.a x.e.key.length x.c, .int .i64 x.e.id]) ∧ PopS (h + 1) lo w w' K n x

theorem take_last {α : Type} {l : List α} {M : Nat} {x : α} (hl : l.length = M) (h : l[M - 1]? = some x) : l = l.take (M - 1) ++ [x] := by
  have h1 := (List.getElem?_eq_some_iff.1 h).1
  have h2 := cut_at h
  rw [List.drop_eq_nil_of_le (by omega : l.length ≤ M - 1 + 1)] at h2
  exact h2

theorem del_lastC (l : List CE) (M : Nat) (hl : l.length = M) (h1 : 1 ≤ M) : delC 2 (flatC l) (M - 1) = flatC (l.take (M - 1)) := by
  unfold delC
  rw [flatC_take, List.drop_eq_nil_of_le (by rw [flatC_len, hl]; omega), List.append_nil]

theorem weave_last (cs : List (List CE)) (es : List CE) (c : List CE) (hl : cs.length = es.length + 1) (hc : cs[es.length]? = some c) : weave cs es = preW cs es es.length ++ c := by
  rw [weave_at cs es es.length c hl hc]
  have : postW cs es es.length = [] := by
    unfold postW
    rw [List.drop_of_length_le (Nat.le_refl _)]
    rfl
  rw [this, List.append_nil]

/-- What is cut off behind stays a tree. -/
theorem srt_front {l : List Ent} {x : Ent} (h : Srt ltE (l ++ [x])) : Srt ltE l := (srt_app.1 h).1

set_option maxRecDepth 100000 in
set_option maxHeartbeats 4000000 in
theorem pop_leaf_is : PopC 0 := by
  intro n lo K w t hlo
  obtain ⟨M, hM⟩ : ∃ M, n.es.length = M := ⟨_, rfl⟩
  obtain ⟨N, hN⟩ : ∃ N, n.ks.length = N := ⟨_, rfl⟩
  have hM7 : M ≤ 7 := by rw [← hM]; exact t.wf.2.1
  have hM1 : 1 ≤ M := by
    have h1 : lo ≤ n.es.length := t.wf.1
    omega
  have hbw := Below.allocs w (.cells #[.slice none 0 0, .int .i64 0] 37)
  have hbx := Lit.new w [.slice none 0 0, .int .i64 0] 37 (by intro v hv; simp at hv; rcases hv with rfl | rfl <;> rfl)
  obtain ⟨V, hV⟩ : ∃ V, w.alloc (.cells #[.slice none 0 0, .int .i64 0] 37) = V := ⟨_, rfl⟩
  rw [show (#[.slice none 0 0, .int .i64 0] : Array Value) = [Value.slice none 0 0, Value.int .i64 0].toArray from rfl] at hV hbw
  rw [hV] at hbw hbx
  rw [show [Value.slice none 0 0, Value.int .i64 0].toArray = (#[.slice none 0 0, .int .i64 0] : Array Value) from rfl] at hV
  obtain ⟨b0, hb0⟩ : ∃ b0, w.heap.size = b0 := ⟨_, rfl⟩
  rw [hb0] at hbx
  have sV := (t.inn.below hbw).self
  have a1 := sV.g1
  rw [List.length_map, hN] at a1
  have a0 := t.inn.self.g0
  have alt := t.inn.self.lt
  rw [hM] at a0
  have HT := Lib.hid t
  have HV := Lib.hid hV
  have HBW := Lib.hid hbw
  have HBX := Lib.hid hbx
  have HM := Lib.hid (And.intro hM hN)
  have HB0 := Lib.hid hb0
  obtain rfl : N = 0 := by rw [← hN, ks_leaf]; rfl
  obtain ⟨x, hx⟩ : ∃ x, n.es[M - 1]? = some x := ⟨n.es[M - 1]'(by omega), by simp [show M - 1 < n.es.length by omega]⟩
  have er := sV.er
  rw [hM] at er
  obtain ⟨eb, eo, hea, d0, d1, _, _, dlt⟩ := ent_at er hx
  have hlf := leaf_is n.g 0 n.cc n.ca true (by decide) V a1
  have HX := Lib.hid hx
  have HEA := Lib.hid hea
  clear t hV hbw hbx hM hN sV hx er d0 d1 dlt hea hlo a1 hb0
  go_enter Try.func45, Try.ntmps45
  go_wp2_with fail
  rw [HV.out]
  simp only [HB0.out]
  refine hlf.mono ?_
  rintro e v2 ⟨rfl, hb2⟩
  have HV2 := Lib.hid (below_tr HBW.out hb2)
  have HBX2 := Lib.hid (HBX.out.below hb2)
  clear hlf hb2 a0 alt HBX
  have s2 := (HT.out.inn.below HV2.out).self
  have a0 := s2.g0
  rw [HM.out.1, HEA.out] at a0
  have er := s2.er
  rw [HM.out.1] at er
  obtain ⟨eb', eo', hea', d0, d1, _, _, dlt⟩ := ent_at er HX.out
  rw [HEA.out] at hea' er
  cases hea'
  have alt := s2.lt
  have m1 : IntKind.i64.wrap ((M : Int) - 1) = (M : Int) - 1 := by rw [IntKind.wrap_i64]; omega
  have m2 : (0 : Int) ≤ (M : Int) - 1 := by omega
  have m3 : ((M : Int) - 1).toNat = M - 1 := by omega
  have m4 : (M : Int) - 1 < (M : Int) := by omega
  -- slices.Delete, behind the box of the entry
  have bal := Below.allocs v2 (.cells #[.slice x.a x.e.key.length x.c, .int .i64 x.e.id] 37)
  have hde := del_en (v2.alloc (.cells #[.slice x.a x.e.key.length x.c, .int .i64 x.e.id] 37)) (some ⟨eb, eo, none⟩) M n.ec (M - 1) (flatC n.es) (er.below bal) (by omega) (by omega)
  rw [show (((M - 1 : Nat)) : Int) = (M : Int) - 1 by omega, show (M : Int) - 1 + 1 = (M : Int) by omega, del_lastC n.es M HM.out.1 hM1] at hde
  have HDE := Lib.hid hde
  have LE := Lit.entry v2 x.a x.e.key.length x.c x.e.id
  have HLE := Lib.hid LE
  have HBA := Lib.hid bal
  clear s2 er hde LE bal
  go_wp2_with fail
  refine (show Calls Try.prog _ _ _ _ from HDE.out).mono ?_
  rintro e w5 ⟨rfl, hr5, ht5⟩
  have B4 := below_tr HV2.out HBA.out
  have s4 := (HT.out.inn.below B4).self
  have ht5' : TouchC (SlF 2 n.ea n.ec) (v2.alloc (.cells #[.slice x.a x.e.key.length x.c, .int .i64 x.e.id] 37)) w5 := by rw [HEA.out]; exact ht5
  have a05 : w5.cell? ⟨n.g, 0, none⟩ = some (.slice (some ⟨eb, eo, none⟩) M n.ec) := by
    rw [ht5'.cell n.g 0 s4.lt (s4.d1 n.g 0 ⟨rfl, by omega⟩)]
    have := s4.g0
    rw [HM.out.1, HEA.out] at this
    exact this
  have f05 : w5.frozen? ⟨n.g, 0, none⟩ = false := by rw [ht5'.fz n.g 0 s4.lt]; exact s4.fz 0
  have hno : ∀ k p, SlF 2 n.ea n.ec k p → k < w.heap.size := HT.out.inn.self.er.lt
  obtain ⟨g, hg⟩ : ∃ g, v2.heap.size = g := ⟨_, rfl⟩
  have hgw : w.heap.size ≤ g := by rw [← hg]; exact HV2.out.size
  have hLE5 : Lit w5 g [.slice x.a x.e.key.length x.c, .int .i64 x.e.id] := by rw [← hg]; exact HLE.out.touch ht5' (fun p hp => by have := hno _ p hp; omega)
  have hLB5 : Lit w5 b0 [.slice none 0 0, .int .i64 0] := (HBX2.out.below HBA.out).touch ht5' (fun p hp => by have := hno _ p hp; have := HB0.out; omega)
  obtain ⟨W6, hW6⟩ : ∃ W6, w5.setCell ⟨n.g, 0, none⟩ (.slice (some ⟨eb, eo, none⟩) (M - 1) n.ec) = W6 := ⟨_, rfl⟩
  have t56 : TouchC (Hd n.g 2) w5 W6 := by rw [← hW6]; exact (TouchC.refl _ _).setCell ⟨rfl, by omega⟩ _
  have gw : n.g < w.heap.size := HT.out.inn.self.lt
  have hLE6 : Lit W6 g [.slice x.a x.e.key.length x.c, .int .i64 x.e.id] := hLE5.touch t56 (fun p hp => by have := hp.1; omega)
  have hLB6 : Lit W6 b0 [.slice none 0 0, .int .i64 0] := hLB5.touch t56 (fun p hp => by have := hp.1; have := HB0.out; omega)
  obtain ⟨e0, e1, _, _⟩ := hLE6.two
  obtain ⟨q0, q1, g0, g1⟩ := hLB6.two
  have elt := hLE6.lt
  have qlt := hLB6.lt
  obtain ⟨W9, hW9⟩ : ∃ W9, put2 W6 b0 (.slice x.a x.e.key.length x.c) (.int .i64 x.e.id) = W9 := ⟨_, rfl⟩
  have t69 : TouchC (fun k _ => k = b0) W6 W9 := by rw [← hW9]; exact (TouchC.setCell (F := fun k _ => k = b0) (TouchC.refl _ _) rfl _).setCell rfl _
  have l9 : Lit W9 b0 [.slice x.a x.e.key.length x.c, .int .i64 x.e.id] := by rw [← hW9]; exact lit_put2 hLB6 rfl rfl
  -- what has become of the node
  have r9 : RowS 2 W9 (some ⟨eb, eo, none⟩) (M - 1) n.ec (flatC (n.es.take (M - 1))) := (hr5.touch t56 (fun k p hx hy => s4.d1 k p hy (by rw [HEA.out]; exact hx))).touch t69 (fun k p hx hy => by rw [← HEA.out] at hx; have := hno k p hx; have := HB0.out; omega)
  have n9 : W9.cell? ⟨n.g, 0, none⟩ = some (.slice (some ⟨eb, eo, none⟩) (M - 1) n.ec) := by
    rw [t69.cell n.g 0 (by have := t56.size; have := ht5'.size; have := s4.lt; omega) (by have := HB0.out; omega), ← hW6]
    exact World.cell?_setCell_same _ _ _ a05
  have n9' : W9.cell? ⟨n.g, 1, none⟩ = some (.slice n.ca 0 n.cc) := by
    rw [t69.cell n.g 1 (by have := t56.size; have := ht5'.size; have := s4.lt; omega) (by have := HB0.out; omega), ← hW6, World.cell?_setCell_other _ _ _ _ (by simp), ht5'.cell n.g 1 s4.lt (s4.d1 n.g 1 ⟨rfl, by omega⟩)]
    have := s4.g1
    rw [List.length_map, HM.out.2] at this
    exact this
  have t49 : TouchC (Or2 (own n) (fun k _ => k = b0)) (v2.alloc (.cells #[.slice x.a x.e.key.length x.c, .int .i64 x.e.id] 37)) W9 := ((ht5'.two t56 (H := own n) (fun _ _ _ h => .inr (.inl h)) (fun _ _ _ h => .inl h))).two t69 (fun _ _ _ h => .inl h) (fun _ _ _ h => .inr h)
  have t9 : TouchC (own n) w W9 := (TouchC.of_below B4).trans t49 (fun k p hk h => by
    rcases h with h | h
    · exact h
    · have := HB0.out; omega)
  have hks : n.ks = [] := ks_leaf n
  have cr9 : RowS 1 W9 n.ca 0 n.cc ((n.ks.map (kg 0)).map nv) := by
    have h1 := HT.out.inn.self.cr
    rw [List.length_map, HM.out.2] at h1
    rw [hks] at h1 ⊢
    refine ⟨rfl, h1.nc, h1.cm, fun _ h => absurd h List.not_mem_nil, ?_⟩
    rcases h1.at' with h2 | ⟨b, o, e, h2, h3, h4⟩
    · exact .inl h2
    · exact .inr ⟨b, o, e, Nat.lt_of_lt_of_le h2 t9.size, fun j u hu => by simp at hu, fun j hj => by
        obtain ⟨q1, q2⟩ := h4 j hj
        exact ⟨t9.there _ _ h2 q1, by rw [t9.fz _ _ h2]; exact q2⟩⟩
  have hres : Res 1 w W9 n (⟨n.g, n.ea, n.ec, n.ca, n.cc, n.es.take (M - 1), n.ks⟩ : Nd (Kid 0)) := up_res (h := 0) HT.out.inn n.ea n.ec n.ca n.cc (n.es.take (M - 1)) n.ks w.heap.size w.heap.size (Nat.le_refl _) (Nat.le_refl _) (by rw [hks]; exact kids_nil _ _) (fun k p hx => .inl hx) (fun k p hx => .inl hx) (fun k p hx => .inl hx) t9 (M - 1) 0 (by rw [List.length_take]; have := HM.out.1; omega) (by rw [hks]; rfl) (by rw [HEA.out]; exact n9) n9' (by rw [HEA.out]; exact r9) cr9
  have hfl : n.es = n.es.take (M - 1) ++ [x] := take_last HM.out.1 HX.out
  have hend : PopS 1 lo w W9 K n x := by
    refine ⟨_, hres, ⟨hres.inn, ⟨?_, ?_, fun h => absurd rfl h, fun c hc => ?_⟩, ?_, fun y hy => ?_, hres.disK HT.out.dis HT.out.klt, fun k hk => Nat.lt_of_lt_of_le (HT.out.klt k hk) t9.size⟩, hfl⟩
    · show lo - 1 ≤ (n.es.take (M - 1)).length
      have h1 : lo ≤ n.es.length := HT.out.wf.1
      rw [List.length_take]; have := HM.out.1; omega
    · show (n.es.take (M - 1)).length ≤ 7
      rw [List.length_take]; omega
    · have hc' : c ∈ n.ks := hc
      rw [hks] at hc'
      exact absurd hc' List.not_mem_nil
    · show Srt ltE (entsC (n.es.take (M - 1)))
      have hs : Srt ltE (entsC n.es) := HT.out.srt
      rw [hfl] at hs
      have e2 : entsC (n.es.take (M - 1) ++ [x]) = entsC (n.es.take (M - 1)) ++ [x.e] := by simp [entsC]
      rw [e2] at hs
      exact srt_front hs
    · exact (HT.out.key y (List.mem_of_mem_take (show y ∈ n.es.take (M - 1) from hy))).stay (HT.out.stayK (t9.mono fun k p _ h => .inl h))
  obtain ⟨q0', q1', _, _⟩ := l9.two
  have HEND := Lib.hid hend
  have HW9 := Lib.hid hW9
  have HW6 := Lib.hid hW6
  have HG := Lib.hid hg
  clear hend hW9 hW6 hres hfl cr9 hks t9 t49 n9 n9' r9 t69 t56 ht5 ht5' hr5 hLE5 hLB5 hLE6 hLB6 l9 hno hgw gw B4 s4 hg
  go_upto_region 5 with (fail)
  rw [HW6.out]
  simp only [HG.out]
  go_wp2_with fail
  change bodyPost _ _ _ _ _ (put2 W6 b0 (.slice x.a x.e.key.length x.c) (.int .i64 x.e.id))
  rw [HW9.out]
  exact bodyPost_ret (w := W9) (v := .agg #[.slice x.a x.e.key.length x.c, .int .i64 x.e.id]) (by simp [results, Try.results45, go_sem, q0', q1']) rfl ⟨x, rfl, HEND.out⟩

set_option maxRecDepth 100000 in
set_option maxHeartbeats 4000000 in
theorem pop_node_is (h : Nat) (ih : PopC h) : PopC (h + 1) := by
  intro n lo K w t hlo
  obtain ⟨M, hM⟩ : ∃ M, n.es.length = M := ⟨_, rfl⟩
  obtain ⟨N, hN⟩ : ∃ N, n.ks.length = N := ⟨_, rfl⟩
  have hM7 : M ≤ 7 := by rw [← hM]; exact t.wf.2.1
  have hM1 : 1 ≤ M := by
    have h1 : lo ≤ n.es.length := t.wf.1
    omega
  have hbw := Below.allocs w (.cells #[.slice none 0 0, .int .i64 0] 37)
  have hbx := Lit.new w [.slice none 0 0, .int .i64 0] 37 (by intro v hv; simp at hv; rcases hv with rfl | rfl <;> rfl)
  obtain ⟨V, hV⟩ : ∃ V, w.alloc (.cells #[.slice none 0 0, .int .i64 0] 37) = V := ⟨_, rfl⟩
  rw [show (#[.slice none 0 0, .int .i64 0] : Array Value) = [Value.slice none 0 0, Value.int .i64 0].toArray from rfl] at hV hbw
  rw [hV] at hbw hbx
  rw [show [Value.slice none 0 0, Value.int .i64 0].toArray = (#[.slice none 0 0, .int .i64 0] : Array Value) from rfl] at hV
  obtain ⟨b0, hb0⟩ : ∃ b0, w.heap.size = b0 := ⟨_, rfl⟩
  rw [hb0] at hbx
  have sV := (t.inn.below hbw).self
  have a1 := sV.g1
  rw [List.length_map, hN] at a1
  have a0 := t.inn.self.g0
  have alt := t.inn.self.lt
  rw [hM] at a0
  have HT := Lib.hid t
  have HV := Lib.hid hV
  have HBW := Lib.hid hbw
  have HBX := Lib.hid hbx
  have HM := Lib.hid (And.intro hM hN)
  have HB0 := Lib.hid hb0
  have hNM : N = M + 1 := by rw [← hN, ← hM]; exact t.len
  subst hNM
  obtain ⟨c, hc⟩ : ∃ c, n.ks[M]? = some c := ⟨n.ks[M]'(by omega), by simp [show M < n.ks.length by omega]⟩
  have tc := t.kid hc
  have hlf := leaf_is n.g (M + 1) n.cc n.ca false (by simp) V a1
  have HC := Lib.hid hc
  have HTC := Lib.hid tc
  clear t hV hbw hbx hM hN sV a1 hlo hb0 hc tc
  go_enter Try.func45, Try.ntmps45
  go_wp2_with fail
  rw [HV.out]
  simp only [HB0.out]
  refine hlf.mono ?_
  rintro e v2 ⟨rfl, hb2⟩
  have HV2 := Lib.hid (below_tr HBW.out hb2)
  have HBX2 := Lib.hid (HBX.out.below hb2)
  clear hlf hb2 HBX a0 alt
  have s2 := (HT.out.inn.below HV2.out).self
  have a1 := s2.g1
  rw [List.length_map, HM.out.2] at a1
  obtain ⟨cb, co, hca, k0, _, klt⟩ := kid_at s2.cr (i := M) (g := kg (h + 1) c) (by simp [HC.out])
  rw [hca] at a1
  have alt := s2.lt
  have hiz : (M : Int) < (M : Int) + 1 := by omega
  have HPOP : Hid (Calls Try.prog 45 #[.pointer (some ⟨kg (h + 1) c, 0, none⟩)] v2 fun e w' => ∃ x : CE, e = .returned (.agg #[.slice x.a x.e.key.length x.c, .int .i64 x.e.id]) ∧ PopS (h + 1) 3 v2 w' K c x) := Lib.hid (ih c 3 K v2 (HTC.out.below HV2.out) (by omega))
  clear s2 hca
  go_wp2_with fail
  refine (show Calls Try.prog _ _ _ _ from HPOP.out).mono ?_
  rintro e w4 ⟨x, rfl, hS⟩
  obtain ⟨c', r, tc', hfl⟩ := hS
  obtain ⟨hcut, hcl⟩ := kid_cut HC.out
  have hdrop : n.ks.drop (M + 1) = [] := List.drop_eq_nil_of_le (by rw [HM.out.2]; exact Nat.le_refl _)
  have r1 : Res (h + 2) v2 w4 n ({ n with ks := n.ks.take M ++ c' :: n.ks.drop (M + 1) } : Nd (Kid (h + 1))) := Res.kid (HT.out.inn.below HV2.out) hcut r
  have r2 : Res (h + 2) w w4 n ({ n with ks := n.ks.take M ++ c' :: n.ks.drop (M + 1) } : Nd (Kid (h + 1))) := Res.from HT.out.inn HV2.out r1
  have hkey := keys_kid (K' := K) HT.out.len hcut HT.out.key ((Stay.of_below HV2.out).trans ((HTC.out.below HV2.out).stayK r.tc)) (fun _ h => h) tc'.key
  have hdis : ∀ k p, foot (h + 2) ({ n with ks := n.ks.take M ++ c' :: n.ks.drop (M + 1) } : Nd (Kid (h + 1))) k p → ¬ K k := r2.disK HT.out.dis HT.out.klt
  -- what it holds
  have hl : (n.ks.map (flatN (h + 1))).length = n.es.length + 1 := by rw [List.length_map]; exact HT.out.len
  have hci : (n.ks.map (flatN (h + 1)))[n.es.length]? = some (flatN (h + 1) c) := by rw [HM.out.1]; simp [HC.out]
  have hflat : flatN (h + 2) n = flatN (h + 2) ({ n with ks := n.ks.take M ++ c' :: n.ks.drop (M + 1) } : Nd (Kid (h + 1))) ++ [x] := by
    rw [flatN_node, flatN_node]
    show weave (n.ks.map (flatN (h + 1))) n.es = weave ((n.ks.take M ++ c' :: n.ks.drop (M + 1)).map (flatN (h + 1))) n.es ++ [x]
    have hM' : M < (n.ks.map (flatN (h + 1))).length := by rw [List.length_map, HM.out.2]; omega
    rw [map_set_cut (flatN (h + 1)) HC.out, weave_last _ _ _ hl hci, weave_last ((n.ks.map (flatN (h + 1))).set M (flatN (h + 1) c')) n.es (flatN (h + 1) c') (by rw [List.length_set]; exact hl) (by rw [HM.out.1, List.getElem?_set_self hM'])]
    have e1 : preW ((n.ks.map (flatN (h + 1))).set M (flatN (h + 1) c')) n.es n.es.length = preW (n.ks.map (flatN (h + 1))) n.es n.es.length := by
      rw [HM.out.1]; exact preW_set _ _ _ _
    rw [e1, hfl]
    simp
  have htorn : Torn h w4 ({ n with ks := n.ks.take M ++ c' :: n.ks.drop (M + 1) } : Nd (Nd (Kid h))) (n.ks.take M) (n.ks.drop (M + 1)) c' M 8 := by
    refine ⟨r2.inn, rfl, hcl, ?_, ?_, fun d hd => ?_, wfN_mono tc'.wf (by omega) (by omega)⟩
    · show (n.ks.take M ++ c' :: n.ks.drop (M + 1)).length = n.es.length + 1
      have h1 := HM.out.1
      have h2 := HM.out.2
      simp
      omega
    · show n.es.length ≤ 20
      have := HM.out.1; omega
    · rcases List.mem_append.1 hd with hd | hd
      · exact HT.out.wf.2.2.2 d (List.mem_of_mem_take hd)
      · exact HT.out.wf.2.2.2 d (List.mem_of_mem_drop hd)
  -- the entry's block
  have bal := Below.allocs w4 (.cells #[.slice x.a x.e.key.length x.c, .int .i64 x.e.id] 37)
  have LE := Lit.entry w4 x.a x.e.key.length x.c x.e.id
  obtain ⟨W5, hW5⟩ : ∃ W5, w4.alloc (.cells #[.slice x.a x.e.key.length x.c, .int .i64 x.e.id] 37) = W5 := ⟨_, rfl⟩
  rw [hW5] at bal LE
  obtain ⟨g, hg⟩ : ∃ g, w4.heap.size = g := ⟨_, rfl⟩
  rw [hg] at LE
  have htorn5 : Torn h W5 ({ n with ks := n.ks.take M ++ c' :: n.ks.drop (M + 1) } : Nd (Nd (Kid h))) (n.ks.take M) (n.ks.drop (M + 1)) c' M 8 := ⟨htorn.inn.below bal, htorn.ks, htorn.at', htorn.len, htorn.top, htorn.wf, htorn.wfc⟩
  have HMD : Hid (Calls Try.prog 42 #[.pointer (some ⟨n.g, 0, none⟩), .int .i64 (M : Int)] W5 fun e w' => e = .returned (.tuple #[]) ∧ ∃ n', Mended h W5 w' ({ n with ks := n.ks.take M ++ c' :: n.ks.drop (M + 1) } : Nd (Nd (Kid h))) n' (Nd.es (κ := Kid h) c').length) := Lib.hid (mend_is h _ _ _ _ M W5 htorn5 (by show 1 ≤ n.es.length; have := HM.out.1; omega))
  have HQ := Lib.hid (And.intro (r2.below bal) (And.intro hkey (And.intro hdis (And.intro hflat (And.intro tc'.wf r.tc)))))
  have HLE := Lib.hid LE
  have HBA := Lib.hid bal
  have HW5 := Lib.hid hW5
  have HG := Lib.hid hg
  have HF4 : Hid (Lit w4 b0 [.slice none 0 0, .int .i64 0]) := Lib.hid (HBX2.out.touch r.tc (fun p hp => by have := HTC.out.inn.lt _ p hp; have := HB0.out; omega))
  have HNG : Hid (∀ p, ¬ foot (h + 2) ({ n with ks := n.ks.take M ++ c' :: n.ks.drop (M + 1) } : Nd (Kid (h + 1))) g p) := Lib.hid (fun p hf => by have := r1.inn.lt _ p hf; omega)
  have HNB : Hid (∀ p, ¬ foot (h + 2) ({ n with ks := n.ks.take M ++ c' :: n.ks.drop (M + 1) } : Nd (Kid (h + 1))) b0 p) := Lib.hid (fun p hf => by
    rcases r1.ft b0 p hf with h1 | h1
    · have := HT.out.inn.lt _ p h1; have := HB0.out; omega
    · have h2 : v2.heap.size ≤ b0 := h1
      have := HBX2.out.lt
      omega)
  clear r tc' hfl hcut hcl hdrop r1 r2 hkey hdis hl hci hflat htorn htorn5 bal LE hW5 hg HPOP a1 k0 klt alt hiz HBX2
  go_wp2_with fail
  rw [HW5.out]
  simp only [HG.out]
  refine (show Calls Try.prog _ _ _ _ from HMD.out).mono ?_
  rintro e w6 ⟨rfl, n6, md⟩
  obtain ⟨r2, hkey, hdis, hflat, hwc, _⟩ := HQ.out
  have hB0 : ∀ p, ¬ foot (h + 2) ({ n with ks := n.ks.take M ++ c' :: n.ks.drop (M + 1) } : Nd (Kid (h + 1))) b0 p := HNB.out
  have hGG : ∀ p, ¬ foot (h + 2) ({ n with ks := n.ks.take M ++ c' :: n.ks.drop (M + 1) } : Nd (Kid (h + 1))) g p := HNG.out
  have hLE6 : Lit w6 g [.slice x.a x.e.key.length x.c, .int .i64 x.e.id] := HLE.out.touch md.res.tc hGG
  have hLB6 : Lit w6 b0 [.slice none 0 0, .int .i64 0] := (HF4.out.below HBA.out).touch md.res.tc hB0
  obtain ⟨e0, e1, _, _⟩ := hLE6.two
  obtain ⟨q0, q1, g0, g1⟩ := hLB6.two
  have elt := hLE6.lt
  have qlt := hLB6.lt
  obtain ⟨W9, hW9⟩ : ∃ W9, put2 w6 b0 (.slice x.a x.e.key.length x.c) (.int .i64 x.e.id) = W9 := ⟨_, rfl⟩
  have t69 : TouchC (fun k _ => k = b0) w6 W9 := by rw [← hW9]; exact (TouchC.setCell (F := fun k _ => k = b0) (TouchC.refl _ _) rfl _).setCell rfl _
  have l9 : Lit W9 b0 [.slice x.a x.e.key.length x.c, .int .i64 x.e.id] := by rw [← hW9]; exact lit_put2 hLB6 rfl rfl
  have hn6 : ∀ p, ¬ foot (h + 2) n6 b0 p := fun p hf => by
    rcases md.res.ft b0 p hf with h1 | h1
    · exact hB0 p h1
    · have h2 : W5.heap.size ≤ b0 := h1
      have := (HF4.out.below HBA.out).lt
      omega
  have inn9 : InN W9 (h + 2) n6 := md.res.inn.touch t69 (fun k p hf hk => by subst hk; exact hn6 p hf)
  have rA : Res (h + 2) w w6 n n6 := r2.trans md.res
  have tw9 : TouchC (foot (h + 2) n) w W9 := rA.tc.trans t69 (fun k p hk h => by have := HB0.out; omega)
  have r9 : Res (h + 2) w W9 n n6 := ⟨rA.g, inn9, rA.ft, tw9⟩
  have hfl : flatN (h + 2) n = flatN (h + 2) n6 ++ [x] := hflat.trans (congrArg (fun z => z ++ [x]) md.flat.symm)
  have hend : PopS (h + 2) lo w W9 K n x := by
    refine ⟨n6, r9, ⟨inn9, ⟨?_, ?_, fun _ => md.len, md.wf⟩, ?_, fun y hy => ?_, r9.disK HT.out.dis HT.out.klt, fun k hk => Nat.lt_of_lt_of_le (HT.out.klt k hk) tw9.size⟩, hfl⟩
    · show lo - 1 ≤ n6.es.length
      have h1 : lo ≤ n.es.length := HT.out.wf.1
      have h2 : n.es.length ≤ n6.es.length + 1 := md.lo
      omega
    · show n6.es.length ≤ 7
      have h1 : n.es.length ≤ 7 := HT.out.wf.2.1
      have h2 : n6.es.length ≤ n.es.length := md.hi7 hwc.2.1
      omega
    · have hs := HT.out.srt
      unfold entN at hs ⊢
      rw [hfl] at hs
      have e2 : entsC (flatN (h + 2) n6 ++ [x]) = entsC (flatN (h + 2) n6) ++ [x.e] := by simp [entsC]
      rw [e2] at hs
      exact srt_front hs
    · exact (HT.out.key y (by rw [hfl]; exact List.mem_append_left _ hy)).stay (HT.out.stayK tw9)
  obtain ⟨q0', q1', _, _⟩ := l9.two
  have HEND := Lib.hid hend
  have HW9 := Lib.hid hW9
  clear hend hW9 hfl r9 tw9 rA inn9 hn6 l9 t69 hLE6 hLB6 hB0 hGG md r2 hkey hdis hflat hwc
  go_wp2_with fail
  change bodyPost _ _ _ _ _ (put2 w6 b0 (.slice x.a x.e.key.length x.c) (.int .i64 x.e.id))
  rw [HW9.out]
  exact bodyPost_ret (w := W9) (v := .agg #[.slice x.a x.e.key.length x.c, .int .i64 x.e.id]) (by simp [results, Try.results45, go_sem, q0', q1']) rfl ⟨x, rfl, HEND.out⟩

theorem pop_is : ∀ h, PopC h
  | 0 => pop_leaf_is
  | h + 1 => pop_node_is h (pop_is h)

end Go.Proofs.Ytfikaccgpjiedaa

