/-
  An entry is taken out of a node, or of what is below it.
-/
import Derived.Test.YtfikaccgpjiedaaJJ20
namespace Go.Proofs.Ytfikaccgpjiedaa
open Go.RowKit Go.Lib

/-- What del leaves: z: was the entry there? -/
def DelS (h lo : Nat) (w w' : World) (K : Nat → Prop) (n : Kid h) (x : Ent) (z : Bool) : Prop :=
  ∃ n' : Kid h, Res h w w' n n' ∧ Tree h (if z then lo - 1 else lo) 7 w' K n' ∧ entN h n' = delS x (entN h n)

def DelC (h : Nat) : Prop := ∀ (n : Nd (Kid h)) (lo : Nat) (K : Nat → Prop) (ka : Option Addr) (kc kn : Nat) (key : List Val) (id : Int) (z : Bool) (w : World), Tree (h + 1) lo 7 w K n → (h ≠ 0 → 1 ≤ lo) → key.length = kn → kn ≤ 1000000 → SlL w ka kc key → decide ((⟨key, id⟩ : Ent) ∈ entN (h + 1) n) = z →
  Calls Try.prog 29 #[.pointer (some ⟨n.g, 0, none⟩), .agg #[.slice ka kn kc, .int .i64 id]] w fun e w' => e = .returned (.bool z) ∧ DelS (h + 1) lo w w' K n ⟨key, id⟩ z

theorem DelS.same {h lo : Nat} {w w' : World} {K : Nat → Prop} {n : Kid h} {x : Ent} (t : Tree h lo 7 w K n) (hx : x ∉ entN h n) (hb : Below w.heap.size w w') : DelS h lo w w' K n x false :=
  ⟨n, Res.of_below t.inn hb, t.below hb, (delS_none hx).symm⟩

theorem row_none {W W' : World} {F : Ft} {a : Option Addr} {c : Nat} (h1 : RowS 1 W a 0 c []) (t : TouchC F W W') : RowS 1 W' a 0 c [] := by
  refine ⟨rfl, h1.nc, h1.cm, fun _ h => absurd h List.not_mem_nil, ?_⟩
  rcases h1.at' with h2 | ⟨b, o, e, h2, h3, h4⟩
  · exact .inl h2
  · exact .inr ⟨b, o, e, Nat.lt_of_lt_of_le h2 t.size, fun j u hu => by simp at hu, fun j hj => by
      obtain ⟨q1, q2⟩ := h4 j hj
      exact ⟨t.there _ _ h2 q1, by rw [t.fz _ _ h2]; exact q2⟩⟩

theorem ents_cut {l : List CE} {i : Nat} {x : Ent} (h : (entsC l)[i]? = some x) : entsC l = entsC (l.take i) ++ x :: entsC (l.drop (i + 1)) := by
  rw [ents_take, ents_drop]
  exact cut_at h

/-- An entry is taken out of a leaf. -/
theorem del_leaf {lo : Nat} {w W' : World} {K : Nat → Prop} {n : Nd (Kid 0)} {i : Nat} {x : Ent} (t : Tree 1 lo 7 w K n) (hx : (entsC n.es)[i]? = some x) (tc : TouchC (own n) w W') (M : Nat) (hM : n.es.length = M)
    (g0 : W'.cell? ⟨n.g, 0, none⟩ = some (.slice n.ea (M - 1) n.ec)) (g1 : W'.cell? ⟨n.g, 1, none⟩ = some (.slice n.ca 0 n.cc)) (er : RowS 2 W' n.ea (M - 1) n.ec (flatC (n.es.take i ++ n.es.drop (i + 1)))) : DelS 1 lo w W' K n x true := by
  have hi : i < M := by have := (List.getElem?_eq_some_iff.1 hx).1; rw [entsC_len] at this; omega
  have hks : n.ks = [] := ks_leaf n
  have cr : RowS 1 W' n.ca 0 n.cc ((n.ks.map (kg 0)).map nv) := by
    have h1 := t.inn.self.cr
    rw [List.length_map] at h1
    rw [hks] at h1 ⊢
    exact row_none h1 tc
  have hlen : (n.es.take i ++ n.es.drop (i + 1)).length = M - 1 := by simp; omega
  have hres : Res 1 w W' n (⟨n.g, n.ea, n.ec, n.ca, n.cc, n.es.take i ++ n.es.drop (i + 1), n.ks⟩ : Nd (Kid 0)) := up_res (h := 0) t.inn n.ea n.ec n.ca n.cc (n.es.take i ++ n.es.drop (i + 1)) n.ks w.heap.size w.heap.size (Nat.le_refl _) (Nat.le_refl _) (by rw [hks]; exact kids_nil _ _) (fun k p hx => .inl hx) (fun k p hx => .inl hx) (fun k p hx => .inl hx) tc (M - 1) 0 hlen (by rw [hks]; rfl) g0 g1 er cr
  have hs : Srt ltE (entsC n.es) := t.srt
  have hent : entsC (n.es.take i ++ n.es.drop (i + 1)) = delS x (entsC n.es) := by
    have h1 := ents_cut hx
    rw [h1] at hs ⊢
    rw [delS_at sloE hs]
    simp [entsC]
  refine ⟨_, hres, ⟨hres.inn, ⟨?_, ?_, fun h => absurd rfl h, fun c hc => ?_⟩, ?_, fun y hy => ?_, hres.disK t.dis t.klt, fun k hk => Nat.lt_of_lt_of_le (t.klt k hk) tc.size⟩, hent⟩
  · show lo - 1 ≤ (n.es.take i ++ n.es.drop (i + 1)).length
    have h1 : lo ≤ n.es.length := t.wf.1
    rw [hlen]; omega
  · show (n.es.take i ++ n.es.drop (i + 1)).length ≤ 7
    have h1 : n.es.length ≤ 7 := t.wf.2.1
    rw [hlen]; omega
  · have hc' : c ∈ n.ks := hc
    rw [hks] at hc'
    exact absurd hc' List.not_mem_nil
  · show Srt ltE (entsC (n.es.take i ++ n.es.drop (i + 1)))
    rw [hent]
    exact srt_delS hs
  · have hy' : y ∈ n.es.take i ++ n.es.drop (i + 1) := hy
    have hst : Stay K w W' := t.stayK (tc.mono fun k p _ h => .inl h)
    rcases List.mem_append.1 hy' with h1 | h1
    · exact (t.key y (List.mem_of_mem_take h1)).stay hst
    · exact (t.key y (List.mem_of_mem_drop h1)).stay hst

/-- A child has lost the entry. -/
theorem del_kid_is {h lo : Nat} {w W2 : World} {K : Nat → Prop} {n : Nd (Kid (h + 1))} {i : Nat} {c : Kid (h + 1)} {x : Ent} {z : Bool} (t : Tree (h + 2) lo 7 w K n) (hh : Here ltE (entsC n.es) x i) (hne : (entsC n.es)[i]? ≠ some x) (hc : n.ks[i]? = some c) (hp : DelS (h + 1) 3 w W2 K c x z) :
    ∃ c' : Kid (h + 1), Res (h + 2) w W2 n ({ n with ks := n.ks.take i ++ c' :: n.ks.drop (i + 1) } : Nd (Kid (h + 1))) ∧ wfN (h + 1) (if z then 2 else 3) 7 c' ∧ entN (h + 2) ({ n with ks := n.ks.take i ++ c' :: n.ks.drop (i + 1) } : Nd (Kid (h + 1))) = delS x (entN (h + 2) n) ∧
      (∀ y ∈ flatN (h + 2) ({ n with ks := n.ks.take i ++ c' :: n.ks.drop (i + 1) } : Nd (Kid (h + 1))), KOk K W2 y) := by
  obtain ⟨c', r, t', he⟩ := hp
  obtain ⟨hcut, hlen⟩ := kid_cut hc
  have tck := t.kid hc
  refine ⟨c', Res.kid t.inn hcut r, t'.wf, ?_, keys_kid t.len hcut t.key (tck.stayK r.tc) (fun _ h => h) t'.key⟩
  have hl : (n.ks.map (entN (h + 1))).length = (entsC n.es).length + 1 := by rw [List.length_map, entsC_len]; exact t.len
  have hci : (n.ks.map (entN (h + 1)))[i]? = some (entN (h + 1) c) := by simp [hc]
  have hs := t.srt
  rw [entN_node] at hs
  rw [entN_node, entN_node]
  show weave ((n.ks.take i ++ c' :: n.ks.drop (i + 1)).map (entN (h + 1))) (entsC n.es) = _
  rw [map_set_cut (entN (h + 1)) hc, weave_set _ _ _ _ hl (by rw [List.length_map]; exact (List.getElem?_eq_some_iff.1 hc).1), del_child sloE hl hs hh hne hci, he]

/-- Mended, it is what del leaves. -/
theorem del_mended {h lo : Nat} {w W2 W3 : World} {K : Nat → Prop} {n n1 n' : Nd (Nd (Kid h))} {x : Ent} {lc : Nat} (t : Tree (h + 2) lo 7 w K n) (r : Res (h + 2) w W2 n n1) (he : entN (h + 2) n1 = delS x (entN (h + 2) n)) (hk : ∀ y ∈ flatN (h + 2) n1, KOk K W2 y) (hes : n1.es.length = n.es.length) (hlc : lc ≤ 7) (m : Mended h W2 W3 n1 n' lc) : DelS (h + 2) lo w W3 K n x true := by
  have hd := r.disK t.dis t.klt
  have hlt : ∀ k, K k → k < W2.heap.size := fun k hk => Nat.lt_of_lt_of_le (t.klt k hk) r.tc.size
  refine ⟨n', r.trans m.res, ⟨m.res.inn, ⟨?_, ?_, fun _ => m.len, m.wf⟩, ?_, fun y hy => ?_, m.res.disK hd hlt, fun k hk => Nat.lt_of_lt_of_le (hlt k hk) m.res.tc.size⟩, ?_⟩
  · show lo - 1 ≤ n'.es.length
    have h1 : lo ≤ n.es.length := t.wf.1
    have := m.lo
    omega
  · show n'.es.length ≤ 7
    have h1 : n.es.length ≤ 7 := t.wf.2.1
    have := m.hi7 hlc
    omega
  · show Srt ltE (entsC (flatN (h + 2) n'))
    rw [m.flat]
    have e : entsC (flatN (h + 2) n1) = delS x (entN (h + 2) n) := he
    rw [e]
    exact srt_delS t.srt
  · rw [m.flat] at hy
    exact (hk y hy).stay (m.res.tc.stay fun k p hk' hf => hd k p hf hk')
  · show entsC (flatN (h + 2) n') = _
    rw [m.flat]
    exact he

/-- The greatest of what stands ahead of an entry has taken its place. -/
theorem del_swap {h lo : Nat} {w V W4 W5 : World} {K : Nat → Prop} {n : Nd (Kid (h + 1))} {i : Nat} {c : Kid (h + 1)} {x : Ent} {y : CE} {eb eo M : Nat} (t : Tree (h + 2) lo 7 w K n) (hb : Below w.heap.size w V) (hx : (entsC n.es)[i]? = some x) (hc : n.ks[i]? = some c) (hp : PopS (h + 1) 3 V W4 K c y) (hM : n.es.length = M) (hea : n.ea = some ⟨eb, eo, none⟩)
    (hW : (W4.setCell ⟨eb, eo + i * 2, none⟩ (.slice y.a y.e.key.length y.c)).setCell ⟨eb, eo + i * 2 + 1, none⟩ (.int .i64 y.e.id) = W5) :
    ∃ c' : Kid (h + 1), Res (h + 2) w W5 n ({ n with es := n.es.take i ++ y :: n.es.drop (i + 1), ks := n.ks.take i ++ c' :: n.ks.drop (i + 1) } : Nd (Kid (h + 1))) ∧ wfN (h + 1) 2 7 c' ∧ entN (h + 2) ({ n with es := n.es.take i ++ y :: n.es.drop (i + 1), ks := n.ks.take i ++ c' :: n.ks.drop (i + 1) } : Nd (Kid (h + 1))) = delS x (entN (h + 2) n) ∧
      (∀ y' ∈ flatN (h + 2) ({ n with es := n.es.take i ++ y :: n.es.drop (i + 1), ks := n.ks.take i ++ c' :: n.ks.drop (i + 1) } : Nd (Kid (h + 1))), KOk K W5 y') := by
  obtain ⟨c', r, t', hfl⟩ := hp
  obtain ⟨hcut, hlen⟩ := kid_cut hc
  have hi : i < M := by have := (List.getElem?_eq_some_iff.1 hx).1; rw [entsC_len] at this; omega
  have tb := t.below hb
  have tck := tb.kid hc
  have r1 : Res (h + 2) V W4 n ({ n with ks := n.ks.take i ++ c' :: n.ks.drop (i + 1) } : Nd (Kid (h + 1))) := Res.kid tb.inn hcut r
  have hkey := keys_kid (K' := K) t.len hcut tb.key (tck.stayK r.tc) (fun _ h => h) t'.key
  have sA := r1.inn.self
  have erA := sA.er
  rw [show ({ n with ks := n.ks.take i ++ c' :: n.ks.drop (i + 1) } : Nd (Kid (h + 1))).es.length = M from hM, show ({ n with ks := n.ks.take i ++ c' :: n.ks.drop (i + 1) } : Nd (Kid (h + 1))).ea = some ⟨eb, eo, none⟩ from hea] at erA
  obtain ⟨er5, t45⟩ := erA.splice (j := i * 2) (news := y.cs) (by simp [CE.cs]; omega) (cs_one y)
  rw [show W4.setCells eb (eo + i * 2) y.cs = W5 from hW] at er5 t45
  have hsp : Ytfikaccgpjiedaa.splice (flatC n.es) (i * 2) y.cs = flatC (n.es.take i ++ y :: n.es.drop (i + 1)) := by
    unfold Ytfikaccgpjiedaa.splice
    rw [flatC_take, show i * 2 + y.cs.length = (i + 1) * 2 by simp [CE.cs]; omega, flatC_drop, flatC_app, flatC_cons]
    simp
  rw [show ({ n with ks := n.ks.take i ++ c' :: n.ks.drop (i + 1) } : Nd (Kid (h + 1))).es = n.es from rfl, hsp] at er5
  have t45' : TouchC (SlF 2 n.ea n.ec) W4 W5 := by rw [hea]; exact t45
  have lenk : (n.ks.take i ++ c' :: n.ks.drop (i + 1)).length = M + 1 := by
    have h1 := t.len
    have h2 := (List.getElem?_eq_some_iff.1 hc).1
    simp
    omega
  have hlm : (n.es.take i ++ y :: n.es.drop (i + 1)).length = M := by simp; omega
  have gA0 : W5.cell? ⟨n.g, 0, none⟩ = some (.slice n.ea M n.ec) := by
    rw [t45'.cell n.g 0 sA.lt (sA.d1 n.g 0 ⟨rfl, by omega⟩)]
    have := sA.g0
    rw [show ({ n with ks := n.ks.take i ++ c' :: n.ks.drop (i + 1) } : Nd (Kid (h + 1))).es.length = M from hM] at this
    exact this
  have gA1 : W5.cell? ⟨n.g, 1, none⟩ = some (.slice n.ca (M + 1) n.cc) := by
    rw [t45'.cell n.g 1 sA.lt (sA.d1 n.g 1 ⟨rfl, by omega⟩)]
    have := sA.g1
    rw [List.length_map, show ({ n with ks := n.ks.take i ++ c' :: n.ks.drop (i + 1) } : Nd (Kid (h + 1))).ks.length = M + 1 from lenk] at this
    exact this
  have crA : RowS 1 W5 n.ca (M + 1) n.cc (((n.ks.take i ++ c' :: n.ks.drop (i + 1)).map (kg (h + 1))).map nv) := by
    have := sA.cr.touch t45' (fun k p hx hy => sA.d3 k p hy hx)
    rw [List.length_map, show ({ n with ks := n.ks.take i ++ c' :: n.ks.drop (i + 1) } : Nd (Kid (h + 1))).ks.length = M + 1 from lenk] at this
    exact this
  have r2 : Res (h + 2) W4 W5 ({ n with ks := n.ks.take i ++ c' :: n.ks.drop (i + 1) } : Nd (Kid (h + 1))) ({ n with es := n.es.take i ++ y :: n.es.drop (i + 1), ks := n.ks.take i ++ c' :: n.ks.drop (i + 1) } : Nd (Kid (h + 1))) :=
    up_res (h := h + 1) r1.inn n.ea n.ec n.ca n.cc (n.es.take i ++ y :: n.es.drop (i + 1)) (n.ks.take i ++ c' :: n.ks.drop (i + 1)) W4.heap.size W4.heap.size (Nat.le_refl _) (Nat.le_refl _) (r1.inn.kids.touch t45' (fun k p hx hy => r1.inn.dis k p (.inr (.inl hy)) hx)) (fun k p hx => .inl hx) (fun k p hx => .inl hx) (fun k p hx => .inl hx) (t45'.mono fun k p _ hx => .inr (.inl hx)) M (M + 1) hlm lenk gA0 gA1 (by rw [hea]; exact er5) crA
  have hst : Stay K W4 W5 := t45'.stay fun k p hk hf => r1.disK tb.dis tb.klt k p (.inl (.inr (.inl hf))) hk
  have hyc : y ∈ flatN (h + 1) c := by rw [hfl]; simp
  have hks1 : ({ n with es := n.es.take i ++ y :: n.es.drop (i + 1), ks := n.ks.take i ++ c' :: n.ks.drop (i + 1) } : Nd (Kid (h + 1))).ks.length = ({ n with es := n.es.take i ++ y :: n.es.drop (i + 1), ks := n.ks.take i ++ c' :: n.ks.drop (i + 1) } : Nd (Kid (h + 1))).es.length + 1 := by
    show (n.ks.take i ++ c' :: n.ks.drop (i + 1)).length = (n.es.take i ++ y :: n.es.drop (i + 1)).length + 1
    rw [lenk, hlm]
  have hksA : ({ n with ks := n.ks.take i ++ c' :: n.ks.drop (i + 1) } : Nd (Kid (h + 1))).ks.length = ({ n with ks := n.ks.take i ++ c' :: n.ks.drop (i + 1) } : Nd (Kid (h + 1))).es.length + 1 := by
    show (n.ks.take i ++ c' :: n.ks.drop (i + 1)).length = n.es.length + 1
    rw [lenk, hM]
  refine ⟨c', (Res.from t.inn hb r1).trans r2, t'.wf, ?_, fun y' hy' => ?_⟩
  · have hl : (n.ks.map (entN (h + 1))).length = (entsC n.es).length + 1 := by rw [List.length_map, entsC_len]; exact t.len
    have hi2 : i + 1 < n.ks.length := by have := t.len; omega
    obtain ⟨d, hd⟩ : ∃ d, n.ks[i + 1]? = some d := ⟨n.ks[i + 1], by simp [hi2]⟩
    have hci : (n.ks.map (entN (h + 1)))[i]? = some (entN (h + 1) c' ++ [y.e]) := by
      have e1 : entN (h + 1) c = entN (h + 1) c' ++ [y.e] := by unfold entN; rw [hfl]; simp [entsC]
      rw [← e1]; simp [hc]
    have hdi : (n.ks.map (entN (h + 1)))[i + 1]? = some (entN (h + 1) d) := by simp [hd]
    have hs := t.srt
    rw [entN_node] at hs
    rw [entN_node, entN_node]
    show weave ((n.ks.take i ++ c' :: n.ks.drop (i + 1)).map (entN (h + 1))) (entsC (n.es.take i ++ y :: n.es.drop (i + 1))) = _
    have e2 : entsC (n.es.take i ++ y :: n.es.drop (i + 1)) = (entsC n.es).set i y.e := by
      obtain ⟨x0, hx0⟩ : ∃ x0, n.es[i]? = some x0 := ⟨n.es[i]'(by omega), by simp [show i < n.es.length by omega]⟩
      exact map_set_cut CE.e hx0
    rw [map_set_cut (entN (h + 1)) hc, e2]
    exact (del_entry_last sloE hl hs hci hdi hx).symm
  · rcases (mem_kid hks1).1 hy' with h1 | ⟨d, hd, h1⟩
    · have h1' : y' ∈ n.es.take i ++ y :: n.es.drop (i + 1) := h1
      have hall : ∀ z ∈ n.es, KOk K W5 z := fun z hz => (hkey z ((mem_kid hksA).2 (.inl hz))).stay hst
      rcases List.mem_append.1 h1' with h2 | h2
      · exact hall y' (List.mem_of_mem_take h2)
      · rcases List.mem_cons.1 h2 with rfl | h2
        · exact ((tck.key y' hyc).stay (tck.stayK r.tc)).stay hst
        · exact hall y' (List.mem_of_mem_drop h2)
    · exact (hkey y' ((mem_kid hksA).2 (.inr ⟨d, hd, h1⟩))).stay hst

set_option maxRecDepth 100000 in
set_option maxHeartbeats 4000000 in
theorem del_leaf_is : DelC 0 := by
  intro n lo K ka kc kn key id z w t hlo hkn hk6 hsl hz
  have mixed : Try.prog.follows Departure.mixedOrders = true := by kernel_rfl
  have sn := t.inn.self
  obtain ⟨M, hM⟩ : ∃ M, n.es.length = M := ⟨_, rfl⟩
  obtain ⟨N, hN⟩ : ∃ N, n.ks.length = N := ⟨_, rfl⟩
  have hM7 : M ≤ 7 := by rw [← hM]; exact t.wf.2.1
  obtain ⟨i0, hh⟩ := here_of t.srtE ⟨key, id⟩
  have hi0 : i0 ≤ M := by rw [← hM, ← entsC_len]; exact hh.1
  obtain ⟨z1, hz1⟩ : ∃ z1, decide ((entsC n.es)[i0]? = some ⟨key, id⟩) = z1 := ⟨_, rfl⟩
  have hbw := Below.allocs w (.cells #[.slice ka kn kc, .int .i64 id] 37)
  have hbx := Lit.entry w ka kn kc id
  obtain ⟨V, hV⟩ : ∃ V, w.alloc (.cells #[.slice ka kn kc, .int .i64 id] 37) = V := ⟨_, rfl⟩
  rw [hV] at hbw hbx
  have hrd : ∀ W, Below V.heap.size V W → W.cell? ⟨n.g, 0, none⟩ = some (.slice n.ea M n.ec) ∧ W.cell? ⟨n.g, 1, none⟩ = some (.slice n.ca N n.cc) ∧ W.cell? ⟨w.heap.size, 0, none⟩ = some (.slice ka kn kc) ∧ W.cell? ⟨w.heap.size, 1, none⟩ = some (.int .i64 id) := fun W hb => by
    have s := (t.inn.below (below_tr hbw hb)).self
    have a0 := s.g0
    have a1 := s.g1
    rw [hM] at a0
    rw [List.length_map, hN] at a1
    obtain ⟨e0, e1, _, _⟩ := (hbx.below hb).two
    exact ⟨a0, a1, e0, e1⟩
  have hbs : ∀ W, Below V.heap.size V W → Calls Try.prog 38 #[.slice n.ea M n.ec, .agg #[.slice ka kn kc, .int .i64 id], .func (.func 39) #[] #[]] W fun e w' => e = .returned (.tuple #[.int .i64 (i0 : Int), .bool z1]) ∧ Below W.heap.size W w' := fun W hb => by
    have tb := t.below (below_tr hbw hb)
    have er := tb.inn.self.er
    rw [hM] at er
    exact bse_is n.ea ka n.ec M kc kn n.es key id i0 z1 hM (by omega) hkn W er (fun x hx => (tb.keyE x hx).1.sl) (hsl.below (below_tr hbw hb)) hh hz1
  have HT := Lib.hid t
  have HRD := Lib.hid hrd
  have HBS := Lib.hid hbs
  have HV := Lib.hid hV
  have HBW := Lib.hid hbw
  have HBX := Lib.hid hbx
  have HM := Lib.hid (And.intro hM hN)
  have HH := Lib.hid hh
  have HZ1 := Lib.hid hz1
  have HZ := Lib.hid hz
  have HSL := Lib.hid hsl
  have HKN := Lib.hid hkn
  obtain rfl : N = 0 := by rw [← hN, ks_leaf]; rfl
  clear t hrd hbs hV hbw hbx hM hN hh hz1 hz hsl hkn sn hlo
  go_enter Try.func29, Try.ntmps29
  go_wp2_with fail
  rw [HV.out]
  have hdr := below_drw V
  try simp only [List.append_eq, List.cons_append, List.nil_append]
  refine RX.wp_region_plan (fun w w' => Below w.heap.size w w') [.it (.pointer (some ⟨n.g, 0, none⟩)), .it (.pointer (some ⟨n.g, 0, none⟩)), .it (.pointer (some ⟨n.g, 0, none⟩)), .it (.slice n.ea M n.ec), .it (.agg #[.slice ka kn kc, .int .i64 id]), .it (.tuple #[.int .i64 (i0 : Int), .bool z1]), .it (.tuple #[.int .i64 (i0 : Int), .bool z1]), .it (.int .i64 (i0 : Int)), .it (.bool z1), .it (.int .i64 (i0 : Int)), .it (.bool z1)] (by kernel_rfl) (by kernel_rfl) (fun _ => Below.refl _ _) (fun _ _ _ => below_tr) ?_
  refine RX.seqP_value (fun _ => Below.refl _ _) _ (by first | rfl | simp) (fun w' hw' hctx => by (go_simp); (try first | with_reducible rfl | simp)) ?_
  simp only [Act.put, List.setIfInBounds_toArray, List.set_cons_zero, List.set_cons_succ]
  refine RX.seqP_value (fun _ => Below.refl _ _) _ (by first | rfl | simp) (fun w' hw' hctx => by (go_simp); (try first | with_reducible rfl | simp)) ?_
  simp only [Act.put, List.setIfInBounds_toArray, List.set_cons_zero, List.set_cons_succ]
  refine RX.seqP_value (fun _ => Below.refl _ _) _ (by first | rfl | simp) (fun w' hw' hctx => by (go_simp); (try first | with_reducible rfl | simp)) ?_
  simp only [Act.put, List.setIfInBounds_toArray, List.set_cons_zero, List.set_cons_succ]
  refine RX.seqP_value (fun _ => Below.refl _ _) _ (by first | rfl | simp) (fun w' hw' hctx => ?_) ?_
  · obtain ⟨a0, a1, e0, e1⟩ := HRD.out w' (below_tr hdr hw')
    go_simp
    try first | with_reducible rfl | simp
  simp only [Act.put, List.setIfInBounds_toArray, List.set_cons_zero, List.set_cons_succ]
  refine RX.seqP_value (fun _ => Below.refl _ _) _ (by first | rfl | simp) (fun w' hw' hctx => ?_) ?_
  · obtain ⟨a0, a1, e0, e1⟩ := HRD.out w' (below_tr hdr hw')
    go_simp
    try first | with_reducible rfl | simp
  simp only [Act.put, List.setIfInBounds_toArray, List.set_cons_zero, List.set_cons_succ]
  refine RX.seqP_call (38) #[.slice n.ea M n.ec, .agg #[.slice ka kn kc, .int .i64 id], .func (.func 39) #[] #[]] (.tuple #[.int .i64 (i0 : Int), .bool z1]) (by first | rfl | simp) (fun w' hw' hctx => ?_) (fun w' hw' hctx => HBS.out w' (below_tr hdr hw')) ?_
  · go_simp
  simp only [Act.put, List.setIfInBounds_toArray, List.set_cons_zero, List.set_cons_succ]
  refine RX.seqP_value (fun _ => Below.refl _ _) _ (by first | rfl | simp) (fun w' hw' hctx => by (go_simp); (try first | with_reducible rfl | simp)) ?_
  simp only [Act.put, List.setIfInBounds_toArray, List.set_cons_zero, List.set_cons_succ]
  refine RX.seqP_value (fun _ => Below.refl _ _) _ (by first | rfl | simp) (fun w' hw' hctx => by (go_simp); (try first | with_reducible rfl | simp)) ?_
  simp only [Act.put, List.setIfInBounds_toArray, List.set_cons_zero, List.set_cons_succ]
  refine RX.seqP_value (fun _ => Below.refl _ _) _ (by first | rfl | simp) (fun w' hw' hctx => by (go_simp); (try first | with_reducible rfl | simp)) ?_
  simp only [Act.put, List.setIfInBounds_toArray, List.set_cons_zero, List.set_cons_succ]
  refine RX.seqP_value (fun _ => Below.refl _ _) _ (by first | rfl | simp) (fun w' hw' hctx => by (go_simp); (try first | with_reducible rfl | simp)) ?_
  simp only [Act.put, List.setIfInBounds_toArray, List.set_cons_zero, List.set_cons_succ]
  refine RX.seqP_value (fun _ => Below.refl _ _) _ (by first | rfl | simp) (fun w' hw' hctx => by (go_simp); (try first | with_reducible rfl | simp)) ?_
  simp only [Act.put, List.setIfInBounds_toArray, List.set_cons_zero, List.set_cons_succ]
  refine RX.seqP_nil (fun v1 hR hctx _ => ?_)
  have hv1 := below_tr hdr hR
  clear hctx hR
  have HV1 := Lib.hid hv1
  clear hv1 hdr
  obtain ⟨a0, a1, e0, e1⟩ := HRD.out v1 HV1.out
  have hlf := leaf_is n.g 0 n.cc n.ca true (by decide) v1 a1
  clear a0 e0 e1
  cases z1 with
  | false =>
    have hne : (entsC n.es)[i0]? ≠ some ⟨key, id⟩ := of_decide_eq_false HZ1.out
    have hx := not_at HT.out.srt HH.out hne
    obtain rfl : z = false := by rw [← HZ.out]; exact decide_eq_false hx
    have HX := Lib.hid hx
    clear hx hne
    go_wp2_with fail
    refine hlf.mono ?_
    rintro e v2 ⟨rfl, hb2⟩
    have HV2 := Lib.hid (below_tr HV1.out hb2)
    clear hlf hb2 a1
    go_wp2_with fail
    go_ret
    exact ⟨rfl, DelS.same HT.out HX.out (below_tr HBW.out HV2.out)⟩
  | true =>
    have hx : (entsC n.es)[i0]? = some ⟨key, id⟩ := of_decide_eq_true HZ1.out
    obtain rfl : z = true := by rw [← HZ.out]; exact decide_eq_true (List.mem_of_getElem? hx)
    have hiM : i0 < M := by have := (List.getElem?_eq_some_iff.1 hx).1; rw [entsC_len, HM.out.1] at this; exact this
    have HX := Lib.hid hx
    clear hx
    go_wp2_with fail
    refine hlf.mono ?_
    rintro e v2 ⟨rfl, hb2⟩
    have HV2 := Lib.hid (below_tr HV1.out hb2)
    have a12 : v2.cell? ⟨n.g, 1, none⟩ = some (.slice n.ca 0 n.cc) := (HRD.out v2 HV2.out).2.1
    have hlf2 := leaf_is n.g 0 n.cc n.ca true (by decide) v2 a12
    clear hlf hb2 a1
    go_wp2_with fail
    refine hlf2.mono ?_
    rintro e v3 ⟨rfl, hb3⟩
    have HV3 := Lib.hid (below_tr HV2.out hb3)
    have BW3 := Lib.hid (below_tr HBW.out HV3.out)
    clear hlf2 hb3 a12
    have s3 := (HT.out.inn.below BW3.out).self
    have a0 := s3.g0
    have er := s3.er
    rw [HM.out.1] at a0 er
    have alt := s3.lt
    have hde := del_en v3 n.ea M n.ec i0 (flatC n.es) er (by omega) hiM
    have HDE := Lib.hid hde
    have z6 : IntKind.i64.wrap ((i0 : Int) + 1) = (i0 : Int) + 1 := by rw [IntKind.wrap_i64]; omega
    clear s3 er hde
    go_wp2_with fail
    refine (show Calls Try.prog _ _ _ _ from HDE.out).mono ?_
    rintro e w5 ⟨rfl, hr5, ht5⟩
    have s3 := (HT.out.inn.below BW3.out).self
    have a05 : w5.cell? ⟨n.g, 0, none⟩ = some (.slice n.ea M n.ec) := by rw [ht5.cell n.g 0 s3.lt (s3.d1 n.g 0 ⟨rfl, by omega⟩)]; exact a0
    have f05 : w5.frozen? ⟨n.g, 0, none⟩ = false := by rw [ht5.fz n.g 0 s3.lt]; exact s3.fz 0
    have hes : delC 2 (flatC n.es) i0 = flatC (n.es.take i0 ++ n.es.drop (i0 + 1)) := by
      unfold delC
      rw [flatC_take, flatC_drop, flatC_app]
    rw [hes] at hr5
    obtain ⟨W6, hW6⟩ : ∃ W6, w5.setCell ⟨n.g, 0, none⟩ (.slice n.ea (M - 1) n.ec) = W6 := ⟨_, rfl⟩
    have t56 : TouchC (Hd n.g 2) w5 W6 := by rw [← hW6]; exact (TouchC.refl _ _).setCell ⟨rfl, by omega⟩ _
    have t36 : TouchC (own n) v3 W6 := ht5.two t56 (fun _ _ _ h => .inr (.inl h)) (fun _ _ _ h => .inl h)
    have g0 : W6.cell? ⟨n.g, 0, none⟩ = some (.slice n.ea (M - 1) n.ec) := by rw [← hW6]; exact World.cell?_setCell_same _ _ _ a05
    have g1 : W6.cell? ⟨n.g, 1, none⟩ = some (.slice n.ca 0 n.cc) := by
      rw [← hW6, World.cell?_setCell_other _ _ _ _ (by simp), ht5.cell n.g 1 s3.lt (s3.d1 n.g 1 ⟨rfl, by omega⟩)]
      have := s3.g1
      rw [List.length_map, HM.out.2] at this
      exact this
    have hend := del_leaf HT.out HX.out ((TouchC.of_below BW3.out).trans t36 (fun _ _ _ h => h)) M HM.out.1 g0 g1 (hr5.touch t56 (fun k p hx hy => s3.d1 k p hy hx))
    have HEND := Lib.hid hend
    have HW6 := Lib.hid hW6
    clear hend hW6 t56 t36 g0 g1 hes hr5 ht5 s3
    go_wp2_with fail
    rw [HW6.out]
    go_ret
    exact ⟨rfl, HEND.out⟩

set_option maxRecDepth 100000 in
set_option maxHeartbeats 4000000 in
theorem del_node_is (h : Nat) (ih : DelC h) : DelC (h + 1) := by
  intro n lo K ka kc kn key id z w t hlo hkn hk6 hsl hz
  have mixed : Try.prog.follows Departure.mixedOrders = true := by kernel_rfl
  have sn := t.inn.self
  obtain ⟨M, hM⟩ : ∃ M, n.es.length = M := ⟨_, rfl⟩
  obtain ⟨N, hN⟩ : ∃ N, n.ks.length = N := ⟨_, rfl⟩
  have hM7 : M ≤ 7 := by rw [← hM]; exact t.wf.2.1
  obtain ⟨i0, hh⟩ := here_of t.srtE ⟨key, id⟩
  have hi0 : i0 ≤ M := by rw [← hM, ← entsC_len]; exact hh.1
  obtain ⟨z1, hz1⟩ : ∃ z1, decide ((entsC n.es)[i0]? = some ⟨key, id⟩) = z1 := ⟨_, rfl⟩
  have hbw := Below.allocs w (.cells #[.slice ka kn kc, .int .i64 id] 37)
  have hbx := Lit.entry w ka kn kc id
  obtain ⟨V, hV⟩ : ∃ V, w.alloc (.cells #[.slice ka kn kc, .int .i64 id] 37) = V := ⟨_, rfl⟩
  rw [hV] at hbw hbx
  have hrd : ∀ W, Below V.heap.size V W → W.cell? ⟨n.g, 0, none⟩ = some (.slice n.ea M n.ec) ∧ W.cell? ⟨n.g, 1, none⟩ = some (.slice n.ca N n.cc) ∧ W.cell? ⟨w.heap.size, 0, none⟩ = some (.slice ka kn kc) ∧ W.cell? ⟨w.heap.size, 1, none⟩ = some (.int .i64 id) := fun W hb => by
    have s := (t.inn.below (below_tr hbw hb)).self
    have a0 := s.g0
    have a1 := s.g1
    rw [hM] at a0
    rw [List.length_map, hN] at a1
    obtain ⟨e0, e1, _, _⟩ := (hbx.below hb).two
    exact ⟨a0, a1, e0, e1⟩
  have hbs : ∀ W, Below V.heap.size V W → Calls Try.prog 38 #[.slice n.ea M n.ec, .agg #[.slice ka kn kc, .int .i64 id], .func (.func 39) #[] #[]] W fun e w' => e = .returned (.tuple #[.int .i64 (i0 : Int), .bool z1]) ∧ Below W.heap.size W w' := fun W hb => by
    have tb := t.below (below_tr hbw hb)
    have er := tb.inn.self.er
    rw [hM] at er
    exact bse_is n.ea ka n.ec M kc kn n.es key id i0 z1 hM (by omega) hkn W er (fun x hx => (tb.keyE x hx).1.sl) (hsl.below (below_tr hbw hb)) hh hz1
  have HT := Lib.hid t
  have HRD := Lib.hid hrd
  have HBS := Lib.hid hbs
  have HV := Lib.hid hV
  have HBW := Lib.hid hbw
  have HBX := Lib.hid hbx
  have HM := Lib.hid (And.intro hM hN)
  have HH := Lib.hid hh
  have HZ1 := Lib.hid hz1
  have HZ := Lib.hid hz
  have HSL := Lib.hid hsl
  have HKN := Lib.hid hkn
  have hNM : N = M + 1 := by rw [← hN, ← hM]; exact t.len
  subst hNM
  have hM1 : 1 ≤ M := by
    have h1 : lo ≤ n.es.length := t.wf.1
    have := hlo (by omega)
    omega
  clear t hrd hbs hV hbw hbx hM hN hh hz1 hz hsl hkn sn hlo
  go_enter Try.func29, Try.ntmps29
  go_wp2_with fail
  rw [HV.out]
  have hdr := below_drw V
  try simp only [List.append_eq, List.cons_append, List.nil_append]
  refine RX.wp_region_plan (fun w w' => Below w.heap.size w w') [.it (.pointer (some ⟨n.g, 0, none⟩)), .it (.pointer (some ⟨n.g, 0, none⟩)), .it (.pointer (some ⟨n.g, 0, none⟩)), .it (.slice n.ea M n.ec), .it (.agg #[.slice ka kn kc, .int .i64 id]), .it (.tuple #[.int .i64 (i0 : Int), .bool z1]), .it (.tuple #[.int .i64 (i0 : Int), .bool z1]), .it (.int .i64 (i0 : Int)), .it (.bool z1), .it (.int .i64 (i0 : Int)), .it (.bool z1)] (by kernel_rfl) (by kernel_rfl) (fun _ => Below.refl _ _) (fun _ _ _ => below_tr) ?_
  refine RX.seqP_value (fun _ => Below.refl _ _) _ (by first | rfl | simp) (fun w' hw' hctx => by (go_simp); (try first | with_reducible rfl | simp)) ?_
  simp only [Act.put, List.setIfInBounds_toArray, List.set_cons_zero, List.set_cons_succ]
  refine RX.seqP_value (fun _ => Below.refl _ _) _ (by first | rfl | simp) (fun w' hw' hctx => by (go_simp); (try first | with_reducible rfl | simp)) ?_
  simp only [Act.put, List.setIfInBounds_toArray, List.set_cons_zero, List.set_cons_succ]
  refine RX.seqP_value (fun _ => Below.refl _ _) _ (by first | rfl | simp) (fun w' hw' hctx => by (go_simp); (try first | with_reducible rfl | simp)) ?_
  simp only [Act.put, List.setIfInBounds_toArray, List.set_cons_zero, List.set_cons_succ]
  refine RX.seqP_value (fun _ => Below.refl _ _) _ (by first | rfl | simp) (fun w' hw' hctx => ?_) ?_
  · obtain ⟨a0, a1, e0, e1⟩ := HRD.out w' (below_tr hdr hw')
    go_simp
    try first | with_reducible rfl | simp
  simp only [Act.put, List.setIfInBounds_toArray, List.set_cons_zero, List.set_cons_succ]
  refine RX.seqP_value (fun _ => Below.refl _ _) _ (by first | rfl | simp) (fun w' hw' hctx => ?_) ?_
  · obtain ⟨a0, a1, e0, e1⟩ := HRD.out w' (below_tr hdr hw')
    go_simp
    try first | with_reducible rfl | simp
  simp only [Act.put, List.setIfInBounds_toArray, List.set_cons_zero, List.set_cons_succ]
  refine RX.seqP_call (38) #[.slice n.ea M n.ec, .agg #[.slice ka kn kc, .int .i64 id], .func (.func 39) #[] #[]] (.tuple #[.int .i64 (i0 : Int), .bool z1]) (by first | rfl | simp) (fun w' hw' hctx => ?_) (fun w' hw' hctx => HBS.out w' (below_tr hdr hw')) ?_
  · go_simp
  simp only [Act.put, List.setIfInBounds_toArray, List.set_cons_zero, List.set_cons_succ]
  refine RX.seqP_value (fun _ => Below.refl _ _) _ (by first | rfl | simp) (fun w' hw' hctx => by (go_simp); (try first | with_reducible rfl | simp)) ?_
  simp only [Act.put, List.setIfInBounds_toArray, List.set_cons_zero, List.set_cons_succ]
  refine RX.seqP_value (fun _ => Below.refl _ _) _ (by first | rfl | simp) (fun w' hw' hctx => by (go_simp); (try first | with_reducible rfl | simp)) ?_
  simp only [Act.put, List.setIfInBounds_toArray, List.set_cons_zero, List.set_cons_succ]
  refine RX.seqP_value (fun _ => Below.refl _ _) _ (by first | rfl | simp) (fun w' hw' hctx => by (go_simp); (try first | with_reducible rfl | simp)) ?_
  simp only [Act.put, List.setIfInBounds_toArray, List.set_cons_zero, List.set_cons_succ]
  refine RX.seqP_value (fun _ => Below.refl _ _) _ (by first | rfl | simp) (fun w' hw' hctx => by (go_simp); (try first | with_reducible rfl | simp)) ?_
  simp only [Act.put, List.setIfInBounds_toArray, List.set_cons_zero, List.set_cons_succ]
  refine RX.seqP_value (fun _ => Below.refl _ _) _ (by first | rfl | simp) (fun w' hw' hctx => by (go_simp); (try first | with_reducible rfl | simp)) ?_
  simp only [Act.put, List.setIfInBounds_toArray, List.set_cons_zero, List.set_cons_succ]
  refine RX.seqP_nil (fun v1 hR hctx _ => ?_)
  have hv1 := below_tr hdr hR
  clear hctx hR
  have HV1 := Lib.hid hv1
  clear hv1 hdr
  obtain ⟨a0, a1, e0, e1⟩ := HRD.out v1 HV1.out
  have hlf := leaf_is n.g (M + 1) n.cc n.ca false (by simp) v1 a1
  clear a0 e0 e1
  go_wp2_with fail
  refine hlf.mono ?_
  rintro e v2 ⟨rfl, hb2⟩
  have HV2 := Lib.hid (below_tr HV1.out hb2)
  have a12 : v2.cell? ⟨n.g, 1, none⟩ = some (.slice n.ca (M + 1) n.cc) := (HRD.out v2 HV2.out).2.1
  have hlf2 := leaf_is n.g (M + 1) n.cc n.ca false (by simp) v2 a12
  clear hlf hb2 a1
  go_wp2_with fail
  refine hlf2.mono ?_
  rintro e v3 ⟨rfl, hb3⟩
  have HV3 := Lib.hid (below_tr HV2.out hb3)
  have BW3 := Lib.hid (below_tr HBW.out HV3.out)
  clear hlf2 hb3 a12
  obtain ⟨c, hc⟩ : ∃ c, n.ks[i0]? = some c := ⟨n.ks[i0]'(by rw [HM.out.2]; omega), by simp⟩
  have tc := HT.out.kid hc
  have HC := Lib.hid hc
  have HTC := Lib.hid tc
  clear hc tc
  have s3 := (HT.out.inn.below BW3.out).self
  obtain ⟨a0, a1, e0, e1⟩ := HRD.out v3 HV3.out
  obtain ⟨cb, co, hca, k0, _, klt⟩ := kid_at s3.cr (i := i0) (g := kg (h + 1) c) (by simp [HC.out])
  rw [hca] at a1
  have hnlt := s3.lt
  have helt : w.heap.size < v3.heap.size := Nat.lt_of_lt_of_le HBX.out.lt HV3.out.size
  have hiz : (i0 : Int) < (M : Int) + 1 := by omega
  have HCA := Lib.hid hca
  clear s3 hca
  cases z1 with
  | true =>
    have hx : (entsC n.es)[i0]? = some ⟨key, id⟩ := of_decide_eq_true HZ1.out
    obtain rfl : z = true := by
      rw [← HZ.out]
      obtain ⟨y, hy, hy2⟩ := List.mem_map.1 (List.mem_of_getElem? hx)
      exact decide_eq_true (List.mem_map.2 ⟨y, (mem_kid HT.out.len).2 (.inl hy), hy2⟩)
    have hiM : i0 < M := by have := (List.getElem?_eq_some_iff.1 hx).1; rw [entsC_len, HM.out.1] at this; exact this
    have hiMz : (i0 : Int) < (M : Int) := by omega
    obtain ⟨x0, hx0⟩ : ∃ x0, n.es[i0]? = some x0 := ⟨n.es[i0]'(by rw [HM.out.1]; exact hiM), by simp⟩
    obtain ⟨eb, eo, hea, _⟩ := ent_at (HT.out.inn.below BW3.out).self.er hx0
    have HEA := Lib.hid hea
    have HX := Lib.hid hx
    have HX0 := Lib.hid hx0
    have hpop := fun W (hb : Below v3.heap.size v3 W) => pop_is h c 3 K W (HTC.out.below (below_tr BW3.out hb)) (by omega)
    have HPOP := Lib.hid hpop
    rw [hea] at a0
    have hread : ∀ W, TouchC (foot (h + 1) c) v3 W → W.cell? ⟨n.g, 0, none⟩ = some (.slice (some ⟨eb, eo, none⟩) M n.ec) ∧ W.cell? ⟨n.g, 1, none⟩ = some (.slice (some ⟨cb, co, none⟩) (M + 1) n.cc) ∧ W.cell? ⟨cb, co + i0, none⟩ = some (.pointer (some ⟨kg (h + 1) c, 0, none⟩)) := fun W ht => by
      have hd := (HT.out.inn).dis
      have hcm := List.mem_of_getElem? HC.out
      have s3 := (HT.out.inn.below BW3.out).self
      have hcr : ∀ p, p < (M + 1) → ¬ foot (h + 1) c cb (co + p) := fun p hp hf => hd cb (co + p) (.inr (.inr (by rw [HCA.out]; exact slf_some.2 ⟨rfl, by omega, by have := s3.cr.nc; rw [List.length_map, HM.out.2] at this; omega⟩))) ⟨c, hcm, hf⟩
      exact ⟨by rw [ht.cell n.g 0 hnlt (fun hf => hd n.g 0 (.inl ⟨rfl, by omega⟩) ⟨c, hcm, hf⟩)]; exact a0, by rw [ht.cell n.g 1 hnlt (fun hf => hd n.g 1 (.inl ⟨rfl, by omega⟩) ⟨c, hcm, hf⟩)]; exact a1, by rw [ht.cell cb (co + i0) klt (hcr i0 (by omega))]; exact k0⟩
    have HR := Lib.hid hread
    have HS0 : Hid (v3.drew.cell? ⟨n.g, 0, none⟩ = some (.slice (some ⟨eb, eo, none⟩) M n.ec) ∧ v3.drew.cell? ⟨n.g, 1, none⟩ = some (.slice (some ⟨cb, co, none⟩) (M + 1) n.cc) ∧ v3.drew.cell? ⟨cb, co + i0, none⟩ = some (.pointer (some ⟨kg (h + 1) c, 0, none⟩))) := Lib.hid ⟨a0, a1, k0⟩
    clear hx hx0 hea hpop hread a0 a1 e0 e1 k0 klt hnlt helt
    go_wp2_with fail
    refine RX.wp_region_lastH 13 (fun W => W.cell? ⟨n.g, 0, none⟩ = some (.slice (some ⟨eb, eo, none⟩) M n.ec) ∧ W.cell? ⟨n.g, 1, none⟩ = some (.slice (some ⟨cb, co, none⟩) (M + 1) n.cc) ∧ W.cell? ⟨cb, co + i0, none⟩ = some (.pointer (some ⟨kg (h + 1) c, 0, none⟩))) mixed (by kernel_rfl) ?_
    simp only [List.take_succ_cons, List.take_zero, List.drop_succ_cons, List.drop_zero]
    refine wpAnyH_take (i := 0) (oi := _) (v := .pointer (some ⟨n.g, 0, none⟩)) rfl (by kernel_rfl) (by kernel_rfl) (by kernel_rfl) (fun _ _ _ h => h) (Or.inl ⟨by rfl, fun w' hw' => ?_⟩) (HS0.out) ?_
    · go_simp
      try first | with_reducible rfl | simp
    refine wpAnyH_take (i := 1) (oi := _) (v := .pointer (some ⟨n.g, 0, none⟩)) rfl (by kernel_rfl) (by kernel_rfl) (by kernel_rfl) (fun _ _ _ h => h) (Or.inl ⟨by rfl, fun w' hw' => ?_⟩) (HS0.out) ?_
    · go_simp
      try first | with_reducible rfl | simp
    refine wpAnyH_take (i := 2) (oi := _) (v := .pointer (some ⟨n.g, 0, none⟩)) rfl (by kernel_rfl) (by kernel_rfl) (by kernel_rfl) (fun _ _ _ h => h) (Or.inl ⟨by rfl, fun w' hw' => ?_⟩) (HS0.out) ?_
    · go_simp
      try first | with_reducible rfl | simp
    refine wpAnyH_take (i := 3) (oi := _) (v := .slice (some ⟨eb, eo, none⟩) M n.ec) rfl (by kernel_rfl) (by kernel_rfl) (by kernel_rfl) (fun _ _ _ h => h) (Or.inl ⟨by rfl, fun w' hw' => ?_⟩) (HS0.out) ?_
    · obtain ⟨j0, j1, j2⟩ := hw'
      go_simp
      try first | with_reducible rfl | simp
    refine wpAnyH_take (i := 4) (oi := _) (v := .int .i64 (i0 : Int)) rfl (by kernel_rfl) (by kernel_rfl) (by kernel_rfl) (fun _ _ _ h => h) (Or.inl ⟨by rfl, fun w' hw' => ?_⟩) (HS0.out) ?_
    · go_simp
      try first | with_reducible rfl | simp
    refine wpAnyH_take (i := 5) (oi := _) (v := .pointer (some ⟨n.g, 0, none⟩)) rfl (by kernel_rfl) (by kernel_rfl) (by kernel_rfl) (fun _ _ _ h => h) (Or.inl ⟨by rfl, fun w' hw' => ?_⟩) (HS0.out) ?_
    · go_simp
      try first | with_reducible rfl | simp
    refine wpAnyH_take (i := 6) (oi := _) (v := .pointer (some ⟨n.g, 0, none⟩)) rfl (by kernel_rfl) (by kernel_rfl) (by kernel_rfl) (fun _ _ _ h => h) (Or.inl ⟨by rfl, fun w' hw' => ?_⟩) (HS0.out) ?_
    · go_simp
      try first | with_reducible rfl | simp
    refine wpAnyH_take (i := 7) (oi := _) (v := .pointer (some ⟨n.g, 1, none⟩)) rfl (by kernel_rfl) (by kernel_rfl) (by kernel_rfl) (fun _ _ _ h => h) (Or.inl ⟨by rfl, fun w' hw' => ?_⟩) (HS0.out) ?_
    · go_simp
      try first | with_reducible rfl | simp
    refine wpAnyH_take (i := 8) (oi := _) (v := .slice (some ⟨cb, co, none⟩) (M + 1) n.cc) rfl (by kernel_rfl) (by kernel_rfl) (by kernel_rfl) (fun _ _ _ h => h) (Or.inl ⟨by rfl, fun w' hw' => ?_⟩) (HS0.out) ?_
    · obtain ⟨j0, j1, j2⟩ := hw'
      go_simp
      try first | with_reducible rfl | simp
    refine wpAnyH_take (i := 9) (oi := _) (v := .int .i64 (i0 : Int)) rfl (by kernel_rfl) (by kernel_rfl) (by kernel_rfl) (fun _ _ _ h => h) (Or.inl ⟨by rfl, fun w' hw' => ?_⟩) (HS0.out) ?_
    · go_simp
      try first | with_reducible rfl | simp
    refine wpAnyH_take (i := 10) (oi := _) (v := .pointer (some ⟨cb, co + i0, none⟩)) rfl (by kernel_rfl) (by kernel_rfl) (by kernel_rfl) (fun _ _ _ h => h) (Or.inl ⟨by rfl, fun w' hw' => ?_⟩) (HS0.out) ?_
    · go_simp
      try first | with_reducible rfl | simp
    refine wpAnyH_take (i := 11) (oi := _) (v := .pointer (some ⟨kg (h + 1) c, 0, none⟩)) rfl (by kernel_rfl) (by kernel_rfl) (by kernel_rfl) (fun _ _ _ h => h) (Or.inl ⟨by rfl, fun w' hw' => ?_⟩) (HS0.out) ?_
    · obtain ⟨j0, j1, j2⟩ := hw'
      go_simp
      try first | with_reducible rfl | simp
    refine RX.anyH_call (i := 12) (f := 45) (args := #[.pointer (some ⟨kg (h + 1) c, 0, none⟩)]) (by kernel_rfl) rfl (by rfl) (by go_simp) ?_
    refine (show Calls Try.prog _ _ _ _ from HPOP.out _ (below_drw v3)).mono ?_
    rintro e w4 ⟨y, rfl, hS⟩
    refine ⟨_, rfl, HR.out w4 ((TouchC.of_below (below_drw v3)).trans hS.choose_spec.1.tc (fun _ _ _ h => h)), ?_⟩
    refine wpAnyH_done (by kernel_rfl) ?_ _
    unfold RX.lastQ
    have BW4 := Lib.hid (below_tr BW3.out (below_drw v3))
    have HS := Lib.hid hS
    obtain ⟨W5, hW5⟩ : ∃ W5, (w4.setCell ⟨eb, eo + i0 * 2, none⟩ (.slice y.a y.e.key.length y.c)).setCell ⟨eb, eo + i0 * 2 + 1, none⟩ (.int .i64 y.e.id) = W5 := ⟨_, rfl⟩
    obtain ⟨c', p1, p2, p3, p4⟩ := del_swap (M := M) HT.out BW4.out HX.out HC.out hS HM.out.1 HEA.out hW5
    have hcut := kid_cut HC.out
    have hl1 : (n.es.take i0 ++ y :: n.es.drop (i0 + 1)).length = M := by have := HM.out.1; simp; omega
    have htorn : Torn h W5 ({ n with es := n.es.take i0 ++ y :: n.es.drop (i0 + 1), ks := n.ks.take i0 ++ c' :: n.ks.drop (i0 + 1) } : Nd (Nd (Kid h))) (n.ks.take i0) (n.ks.drop (i0 + 1)) c' i0 8 := by
      refine ⟨p1.inn, rfl, hcut.2, ?_, ?_, fun d hd => ?_, wfN_mono p2 (by omega) (by omega)⟩
      · show (n.ks.take i0 ++ c' :: n.ks.drop (i0 + 1)).length = (n.es.take i0 ++ y :: n.es.drop (i0 + 1)).length + 1
        rw [hl1]
        have := HM.out.2
        simp
        omega
      · show (n.es.take i0 ++ y :: n.es.drop (i0 + 1)).length ≤ 20
        omega
      · rcases List.mem_append.1 hd with hd | hd
        · exact HT.out.wf.2.2.2 d (List.mem_of_mem_take hd)
        · exact HT.out.wf.2.2.2 d (List.mem_of_mem_drop hd)
    have HMD : Hid (Calls Try.prog 42 #[.pointer (some ⟨n.g, 0, none⟩), .int .i64 (i0 : Int)] W5 fun e w' => e = .returned (.tuple #[]) ∧ ∃ n', Mended h W5 w' ({ n with es := n.es.take i0 ++ y :: n.es.drop (i0 + 1), ks := n.ks.take i0 ++ c' :: n.ks.drop (i0 + 1) } : Nd (Nd (Kid h))) n' (Nd.es (κ := Kid h) c').length) := Lib.hid (mend_is h _ _ _ _ i0 W5 htorn (by show 1 ≤ (n.es.take i0 ++ y :: n.es.drop (i0 + 1)).length; omega))
    have HQ := Lib.hid (And.intro p1 (And.intro p2 (And.intro p3 (And.intro p4 hl1))))
    -- the entry's cells
    have tS : TouchC (foot (h + 1) c) v3 w4 := (TouchC.of_below (below_drw v3)).trans hS.choose_spec.1.tc (fun _ _ _ h => h)
    have s4 : SelfN w4 (kg (h + 1)) n := by
      have hd := HT.out.inn.dis
      have hcm := List.mem_of_getElem? HC.out
      exact Self.touch (HT.out.inn.below BW3.out).self tS (fun k p ho hf => hd k p (.inl ho) ⟨c, hcm, hf⟩) (fun k p ho hf => hd k p (.inr (.inl ho)) ⟨c, hcm, hf⟩) (fun k p ho hf => hd k p (.inr (.inr ho)) ⟨c, hcm, hf⟩)
    have er4 := s4.er
    obtain ⟨eb', eo', hea', d0, d1, f0, f1, dlt⟩ := ent_at er4 HX0.out
    rw [HEA.out] at hea'
    cases hea'
    have HW5 := Lib.hid hW5
    clear p1 p2 p3 p4 hcut hl1 htorn hW5 tS s4 er4 hS HR HPOP HS0
    go_upto_region 9 with (fail)
    rw [HW5.out]
    clear d0 d1 f0 f1 dlt
    go_wp2_with fail
    refine (show Calls Try.prog _ _ _ _ from HMD.out).mono ?_
    rintro e w6 ⟨rfl, n6, hmd⟩
    have HM6 := Lib.hid hmd
    clear hmd
    go_wp2_with fail
    go_ret
    obtain ⟨p1, p2, p3, p4, hl1⟩ := HQ.out
    exact ⟨rfl, del_mended HT.out p1 p3 p4 (by show (n.es.take i0 ++ y :: n.es.drop (i0 + 1)).length = n.es.length; rw [hl1, HM.out.1]) p2.2.1 HM6.out⟩
  | false =>
    have hne : (entsC n.es)[i0]? ≠ some ⟨key, id⟩ := of_decide_eq_false HZ1.out
    have hci : (n.ks.map (entN (h + 1)))[i0]? = some (entN (h + 1) c) := by simp [HC.out]
    have hzc : decide ((⟨key, id⟩ : Ent) ∈ entN (h + 1) c) = z := by
      rw [← HZ.out]
      have hs := HT.out.srt
      rw [entN_node] at hs ⊢
      have hm := mem_child sloE (by rw [List.length_map, entsC_len]; exact HT.out.len) hs HH.out hne hci
      rw [Bool.eq_iff_iff, decide_eq_true_iff, decide_eq_true_iff, hm]
    have HNE := Lib.hid hne
    have HZC := Lib.hid hzc
    have hdel := fun W (hb : Below v3.heap.size v3 W) => ih c 3 K ka kc kn key id z W (HTC.out.below (below_tr BW3.out hb)) (fun _ => by omega) HKN.out hk6 (HSL.out.below (below_tr BW3.out hb)) HZC.out
    have HDEL := Lib.hid hdel
    clear hne hci hzc hdel a0
    go_wp2_with fail
    go_still_tail 8, (by kernel_rfl)
    change wpList _ _ _ _ _ v3.drew
    have hp2 := HDEL.out v3.drew (below_drw v3)
    have BW4 := Lib.hid (below_tr BW3.out (below_drw v3))
    clear a1 e0 e1 k0 klt hnlt helt hiz HDEL
    generalize v3.drew = W4 at hp2 BW4 ⊢
    have HP2 : Hid (Calls Try.prog 29 #[.pointer (some ⟨kg (h + 1) c, 0, none⟩), .agg #[.slice ka kn kc, .int .i64 id]] W4 fun e w' => e = .returned (.bool z) ∧ DelS (h + 1) 3 W4 w' K c ⟨key, id⟩ z) := Lib.hid hp2
    clear hp2
    go_wp2_with fail
    refine (show Calls Try.prog _ _ _ _ from HP2.out).mono ?_
    rintro e w5 ⟨rfl, hS⟩
    obtain ⟨c', p1, p2, p3, p4⟩ := del_kid_is (HT.out.below BW4.out) HH.out HNE.out HC.out hS
    have HQ := Lib.hid (And.intro (Res.from HT.out.inn BW4.out p1) (And.intro p2 (And.intro p3 p4)))
    clear hS p1 p2 p3 p4 HP2
    have hkl : (n.ks.take i0 ++ c' :: n.ks.drop (i0 + 1)).length = n.es.length + 1 := by
      rw [← HT.out.len]
      have := (List.getElem?_eq_some_iff.1 HC.out).1
      simp
      omega
    have HKL := Lib.hid hkl
    clear hkl
    cases z with
    | false =>
      go_wp2_with fail
      go_ret
      obtain ⟨p1, p2, p3, p4⟩ := HQ.out
      refine ⟨rfl, _, p1, ⟨p1.inn, ⟨HT.out.wf.1, HT.out.wf.2.1, fun _ => HKL.out, fun d hd => ?_⟩, ?_, p4, p1.disK HT.out.dis HT.out.klt, fun k hk => Nat.lt_of_lt_of_le (HT.out.klt k hk) p1.tc.size⟩, p3⟩
      · have hd' : d ∈ n.ks.take i0 ++ c' :: n.ks.drop (i0 + 1) := hd
        rcases List.mem_append.1 hd' with hd' | hd'
        · exact HT.out.wf.2.2.2 d (List.mem_of_mem_take hd')
        · rcases List.mem_cons.1 hd' with rfl | hd'
          · exact p2
          · exact HT.out.wf.2.2.2 d (List.mem_of_mem_drop hd')
      · rw [p3]
        exact srt_delS HT.out.srt
    | true =>
      have hcut := kid_cut HC.out
      have htorn : Torn h w5 ({ n with ks := n.ks.take i0 ++ c' :: n.ks.drop (i0 + 1) } : Nd (Nd (Kid h))) (n.ks.take i0) (n.ks.drop (i0 + 1)) c' i0 8 := by
        obtain ⟨p1, p2, p3, p4⟩ := HQ.out
        refine ⟨p1.inn, rfl, hcut.2, HKL.out, ?_, fun d hd => ?_, wfN_mono p2 (Nat.le_refl _) (by omega)⟩
        · show n.es.length ≤ 20
          have := HM.out.1; omega
        · rcases List.mem_append.1 hd with hd | hd
          · exact HT.out.wf.2.2.2 d (List.mem_of_mem_take hd)
          · exact HT.out.wf.2.2.2 d (List.mem_of_mem_drop hd)
      have HMD : Hid (Calls Try.prog 42 #[.pointer (some ⟨n.g, 0, none⟩), .int .i64 (i0 : Int)] w5 fun e w' => e = .returned (.tuple #[]) ∧ ∃ n', Mended h w5 w' ({ n with ks := n.ks.take i0 ++ c' :: n.ks.drop (i0 + 1) } : Nd (Nd (Kid h))) n' (Nd.es (κ := Kid h) c').length) := Lib.hid (mend_is h _ _ _ _ i0 w5 htorn (by show 1 ≤ n.es.length; have := HM.out.1; omega))
      clear hcut htorn
      go_wp2_with fail
      refine (show Calls Try.prog _ _ _ _ from HMD.out).mono ?_
      rintro e w6 ⟨rfl, n6, hmd⟩
      have HM6 := Lib.hid hmd
      clear hmd
      go_wp2_with fail
      go_ret
      obtain ⟨p1, p2, p3, p4⟩ := HQ.out
      exact ⟨rfl, del_mended HT.out p1 p3 p4 rfl p2.2.1 HM6.out⟩

theorem del_is : ∀ h, DelC h
  | 0 => del_leaf_is
  | h + 1 => del_node_is h (del_is h)

end Go.Proofs.Ytfikaccgpjiedaa

/-
  A node, with all below it, made anew.
-/
namespace Go.Proofs.Ytfikaccgpjiedaa.RX
section
variable {P : Program} {Q : Exit → Act → World → Prop} {md : Region.Mode} {ops : Array Oper} {S : World → Prop}
/-- append comes next. -/
theorem anyH_app {i : Nat} {o : Oper} {fuel : Nat} {listed : Array Bool} {a : Act} {w w' : World} {v u v' : Value} (s x : Operand) (t t' : TypeId) (hr : Region.ready md ops listed = [i]) (ho : ops[i]? = some o) (hw : Region.wanted o (yielded ops a.tmps) = true)
    (hop : o.op = .call { callee := .builtin .append, args := #[s, x], argTypes := #[t, t'] }) (hs : a.eval s = v) (hx : a.eval x = u) (hrun : (Builtin.append_ #[t, t'] o.type #[v, u]).run P w = .ok v' w') (hS : S w')
    (h : wpAnyH P md ops Q S fuel (listed.setIfInBounds i true) (a.put o.dst v') w') : wpAnyH P md ops Q S (fuel + 1) listed a w :=
  anyH_val hr ho hw (by simp [execOp, hop, resolve, invoke, builtin, hs, hx, hrun, Result.andThen]) hS h
end
end Go.Proofs.Ytfikaccgpjiedaa.RX
namespace Go.Proofs.Ytfikaccgpjiedaa
open Go.RowKit Go.Lib

/-- What clone leaves. -/
def CloneS (h lo hi : Nat) (w w' : World) (n n' : Kid h) (K' : Nat → Prop) : Prop :=
  Below w.heap.size w w' ∧ Tree h lo hi w' K' n' ∧ entN h n' = entN h n ∧ (∀ k p, foot h n' k p → w.heap.size ≤ k) ∧ ∀ k, K' k → w.heap.size ≤ k

def CloneC (h : Nat) : Prop := ∀ (n : Kid h) (lo hi : Nat) (K : Nat → Prop) (w : World), hi ≤ 8 → Tree h lo hi w K n →
  Calls Try.prog 37 #[.pointer (some ⟨kg h n, 0, none⟩)] w fun e w' => ∃ (n' : Kid h) (K' : Nat → Prop), e = .returned (.pointer (some ⟨kg h n', 0, none⟩)) ∧ CloneS h lo hi w w' n n' K'

/-- The entries made anew so far: a row of the new node's. -/
structure Cl1 (B g : Nat) (es : List CE) (i : Nat) (W : World) (a : Option Addr) (c : Nat) (es' : List CE) (K' : Nat → Prop) : Prop where
  row : RowS 2 W a i c (flatC es')
  len : es'.length = i
  ent : entsC es' = (entsC es).take i
  key : ∀ x ∈ es', KOk K' W x
  new : ∀ k p, SlF 2 a c k p → B ≤ k ∧ k ≠ g ∧ ¬ K' k
  keys : ∀ k, K' k → B ≤ k ∧ k ≠ g ∧ k < W.heap.size

theorem Cl1.below {B g : Nat} {es : List CE} {i : Nat} {W W' : World} {a : Option Addr} {c : Nat} {es' : List CE} {K' : Nat → Prop} (h : Cl1 B g es i W a c es' K') (hb : Below W.heap.size W W') : Cl1 B g es i W' a c es' K' :=
  ⟨h.row.below hb, h.len, h.ent, fun x hx => (h.key x hx).stay (Stay.of_below hb), h.new, fun k hk => ⟨(h.keys k hk).1, (h.keys k hk).2.1, Nat.lt_of_lt_of_le (h.keys k hk).2.2 hb.size⟩⟩
theorem Cl1.touch {B g : Nat} {es : List CE} {i : Nat} {W W' : World} {a : Option Addr} {c : Nat} {es' : List CE} {K' : Nat → Prop} {F : Ft} (h : Cl1 B g es i W a c es' K') (ht : TouchC F W W') (h1 : ∀ k p, SlF 2 a c k p → ¬ F k p) (h2 : ∀ k p, K' k → ¬ F k p) : Cl1 B g es i W' a c es' K' :=
  ⟨h.row.touch ht h1, h.len, h.ent, fun x hx => (h.key x hx).stay (ht.stay fun k p hk => h2 k p hk), h.new, fun k hk => ⟨(h.keys k hk).1, (h.keys k hk).2.1, Nat.lt_of_lt_of_le (h.keys k hk).2.2 ht.size⟩⟩

/-- One more. -/
theorem Cl1.next {B g : Nat} {es : List CE} {i : Nat} {W W3 W5 : World} {a : Option Addr} {c : Nat} {es' : List CE} {K' : Nat → Prop} {x y : CE} (h : Cl1 B g es i W a c es' K') (hB : B ≤ W.heap.size) (hg : g < W.heap.size) (hx : es[i]? = some x) (h3 : Below W.heap.size W W3) (hy : SlG (fun k => W.heap.size ≤ k) W3 y.a y.c y.e.key) (hye : y.e = x.e) (hid : I64 x.e.id ∧ x.e.key.length ≤ 1000000)
    {a' : Option Addr} {c' : Nat} (hr : RowS 2 W5 a' (i + 1) c' (flatC es' ++ y.cs)) (hsub : ∀ k p, SlF 2 a' c' k p → SlF 2 a c k p ∨ W3.heap.size ≤ k) (ht : TouchC (SlF 2 a c) W3 W5) : Cl1 B g es (i + 1) W5 a' c' (es' ++ [y]) (fun k => K' k ∨ (W.heap.size ≤ k ∧ k < W3.heap.size)) := by
  have hsz := h3.size
  refine ⟨by rw [flatC_app, show flatC [y] = y.cs by simp [flatC]]; exact hr, by simp [h.len], ?_, fun z hz => ?_, fun k p hk => ?_, fun k hk => ?_⟩
  · have e1 : entsC (es' ++ [y]) = entsC es' ++ [y.e] := by simp [entsC]
    rw [e1, h.ent, List.take_add_one, ents_get hx, hye]
    rfl
  · have hrow : ∀ k p, SlF 2 a c k p → k < W.heap.size := h.row.lt
    rcases List.mem_append.1 hz with hz | hz
    · refine KOk.mono (K := K') ?_ (fun k hk => .inl hk)
      exact ((h.key z hz).stay (Stay.of_below h3)).stay (ht.stay fun k p hk hf => (h.new k p hf).2.2 hk)
    · obtain rfl : z = y := by simpa using hz
      have hy2 : SlG (fun k => W.heap.size ≤ k ∧ k < W3.heap.size) W3 z.a z.c z.e.key := hy.mono (fun k hk h => ⟨h, hk⟩)
      refine ⟨(hy2.stay (ht.stay fun k p hk hf => ?_)).mono (fun k _ hk => .inr hk), by rw [hye]; exact hid⟩
      have := hrow k p hf; omega
  · rcases hsub k p hk with h1 | h1
    · obtain ⟨q1, q2, q3⟩ := h.new k p h1
      have := h.row.lt k p h1
      exact ⟨q1, q2, fun hk' => hk'.elim q3 (fun h => by omega)⟩
    · exact ⟨by omega, by omega, fun hk' => hk'.elim (fun h2 => by have := (h.keys k h2).2.2; omega) (fun h => by omega)⟩
  · rcases hk with hk | hk
    · obtain ⟨q1, q2, q3⟩ := h.keys k hk
      exact ⟨q1, q2, by have := ht.size; omega⟩
    · exact ⟨by omega, by omega, by have := ht.size; omega⟩

/-- The first of two cells is written. -/
theorem lit_put0 {W : World} {g : Nat} {u v : Value} (h : Lit W g [u, v]) {u' : Value} (h2 : u'.oneCell' = true) : Lit (W.setCell ⟨g, 0, none⟩ u') g [u', v] := by
  obtain ⟨c0, c1, f0, f1⟩ := h.two
  refine ⟨by simpa [World.setCell] using h.lt, fun j x hx => ?_, fun j => ?_, fun x hx => ?_⟩
  · match j, hx with
    | 0, hx => simp at hx; subst hx; exact World.cell?_setCell_same _ _ _ c0
    | 1, hx => simp at hx; subst hx; rw [World.cell?_setCell_other _ _ _ _ (by simp)]; exact c1
    | j + 2, hx => simp at hx
  · rw [World.frozen?_setCell]
    exact h.fz j
  · simp at hx
    rcases hx with rfl | rfl
    · exact h2
    · exact h.one _ (by simp)

/-- The children made anew so far. -/
structure Cl2 (h B g : Nat) (es : List CE) (ks : List (Kid h)) (j : Nat) (W : World) (a : Option Addr) (c : Nat) (es' : List CE) (a2 : Option Addr) (c2 : Nat) (ks' : List (Kid h)) (K' : Nat → Prop) : Prop where
  one : Cl1 B g es es.length W a c es' K'
  row : RowS 1 W a2 j c2 ((ks'.map (kg h)).map nv)
  len : ks'.length = j
  ent : ks'.map (entN h) = (ks.map (entN h)).take j
  kids : KidsIn W h ks'
  wf : ∀ d ∈ ks', wfN h 3 7 d
  key : ∀ d ∈ ks', ∀ x ∈ flatN h d, KOk K' W x
  new : ∀ k p, SlF 1 a2 c2 k p → B ≤ k ∧ k ≠ g ∧ ¬ K' k ∧ ¬ SlF 2 a c k p
  far : ∀ k p, footL h ks' k p → B ≤ k ∧ k ≠ g ∧ ¬ K' k ∧ ¬ SlF 2 a c k p ∧ ¬ SlF 1 a2 c2 k p

theorem Cl2.next {h B g : Nat} {es : List CE} {ks : List (Kid h)} {j : Nat} {W W3 W5 : World} {a : Option Addr} {c : Nat} {es' : List CE} {a2 : Option Addr} {c2 : Nat} {ks' : List (Kid h)} {K' K2 : Nat → Prop} {d d' : Kid h} (hl : Cl2 h B g es ks j W a c es' a2 c2 ks' K') (hB : B ≤ W.heap.size) (hg : g < W.heap.size) (hd : ks[j]? = some d) (hs : CloneS h 3 7 W W3 d d' K2)
    {a' : Option Addr} {c' : Nat} (hr : RowS 1 W5 a' (j + 1) c' ((ks'.map (kg h)).map nv ++ [nv (kg h d')])) (hsub : ∀ k p, SlF 1 a' c' k p → SlF 1 a2 c2 k p ∨ W3.heap.size ≤ k) (ht : TouchC (SlF 1 a2 c2) W3 W5) :
    Cl2 h B g es ks (j + 1) W5 a c es' a' c' (ks' ++ [d']) (fun k => K' k ∨ K2 k) := by
  obtain ⟨h3, td, he, hf, hk2⟩ := hs
  have hsz := h3.size
  have hlt3 := td.klt
  have hrow2 : ∀ k p, SlF 1 a2 c2 k p → k < W.heap.size := hl.row.lt
  have hrow1 : ∀ k p, SlF 2 a c k p → k < W.heap.size := hl.one.row.lt
  have hkids : ∀ k p, footL h ks' k p → k < W.heap.size := hl.kids.lt
  have hfl : ∀ k p, foot h d' k p → k < W3.heap.size := td.inn.lt
  have o1 := (hl.one.below h3).touch ht (fun k p hx hy => (hl.new k p hy).2.2.2 hx) (fun k p hx hy => (hl.new k p hy).2.2.1 hx)
  refine ⟨⟨o1.row, o1.len, o1.ent, fun x hx => (o1.key x hx).mono (fun k hk => .inl hk), fun k p hx => ?_, fun k hk => ?_⟩, ?_, by simp [hl.len], ?_, ?_, fun e he' => ?_, fun e he' x hx => ?_, fun k p hx => ?_, fun k p hx => ?_⟩
  · obtain ⟨q1, q2, q3⟩ := hl.one.new k p hx
    exact ⟨q1, q2, fun hk => hk.elim q3 (fun h => by have := hk2 k h; have := hrow1 k p hx; omega)⟩
  · rcases hk with hk | hk
    · exact o1.keys k hk
    · have := hk2 k hk; have := hlt3 k hk; have := ht.size
      exact ⟨by omega, by omega, by omega⟩
  · rw [List.map_append, List.map_append]; exact hr
  · rw [List.map_append, hl.ent, List.take_add_one]
    simp [hd, he]
  · refine kids_app.2 ⟨(hl.kids.below h3).touch ht (fun k p hx hy => (hl.far k p hx).2.2.2.2 hy), kids_one.2 (td.inn.touch ht (fun k p hx hy => by have := hf k p hx; have := hrow2 k p hy; omega)), fun k p hx hy => ?_⟩
    have h1 := hkids k p hx
    have h2 := hf k p (footL_one.1 hy)
    omega
  · rcases List.mem_append.1 he' with he' | he'
    · exact hl.wf e he'
    · obtain rfl : e = d' := by simpa using he'
      exact td.wf
  · rcases List.mem_append.1 he' with he' | he'
    · exact (((hl.key e he' x hx).stay (Stay.of_below h3)).stay (ht.stay fun k p hk hf => (hl.new k p hf).2.2.1 hk)).mono (fun k hk => .inl hk)
    · obtain rfl : e = d' := by simpa using he'
      exact ((td.key x hx).stay (ht.stay fun k p hk hf => by have := hk2 k hk; have := hrow2 k p hf; omega)).mono (fun k hk => .inr hk)
  · rcases hsub k p hx with h1 | h1
    · obtain ⟨q1, q2, q3, q4⟩ := hl.new k p h1
      have := hrow2 k p h1
      exact ⟨q1, q2, fun hk => hk.elim q3 (fun h => by have := hk2 k h; omega), q4⟩
    · exact ⟨by omega, by omega, fun hk => hk.elim (fun h => by have := (hl.one.keys k h).2.2; omega) (fun h => by have := hlt3 k h; omega), fun h => by have := hrow1 k p h; omega⟩
  · rcases footL_app.1 hx with hx | hx
    · obtain ⟨q1, q2, q3, q4, q5⟩ := hl.far k p hx
      have := hkids k p hx
      refine ⟨q1, q2, fun hk => hk.elim q3 (fun h => by have := hk2 k h; omega), q4, fun h1 => ?_⟩
      rcases hsub k p h1 with h2 | h2
      · exact q5 h2
      · omega
    · have hx' := footL_one.1 hx
      have h1 := hf k p hx'
      have h2 := hfl k p hx'
      refine ⟨by omega, by omega, fun hk => hk.elim (fun h => by have := (hl.one.keys k h).2.2; omega) (td.dis k p hx'), fun h => by have := hrow1 k p h; omega, fun h3 => ?_⟩
      rcases hsub k p h3 with h4 | h4
      · have := hrow2 k p h4; omega
      · omega

theorem Cl2.below {h B g : Nat} {es : List CE} {ks : List (Kid h)} {j : Nat} {W W' : World} {a : Option Addr} {c : Nat} {es' : List CE} {a2 : Option Addr} {c2 : Nat} {ks' : List (Kid h)} {K' : Nat → Prop} (hl : Cl2 h B g es ks j W a c es' a2 c2 ks' K') (hb : Below W.heap.size W W') : Cl2 h B g es ks j W' a c es' a2 c2 ks' K' :=
  ⟨hl.one.below hb, hl.row.below hb, hl.len, hl.ent, hl.kids.below hb, hl.wf, fun d hd x hx => (hl.key d hd x hx).stay (Stay.of_below hb), hl.new, hl.far⟩
theorem Cl2.touchG {h B g : Nat} {es : List CE} {ks : List (Kid h)} {j : Nat} {W W' : World} {a : Option Addr} {c : Nat} {es' : List CE} {a2 : Option Addr} {c2 : Nat} {ks' : List (Kid h)} {K' : Nat → Prop} (hl : Cl2 h B g es ks j W a c es' a2 c2 ks' K') (ht : TouchC (fun k _ => k = g) W W') : Cl2 h B g es ks j W' a c es' a2 c2 ks' K' :=
  ⟨hl.one.touch ht (fun k p hx hy => (hl.one.new k p hx).2.1 hy) (fun k _ hk hy => (hl.one.keys k hk).2.1 hy), hl.row.touch ht (fun k p hx hy => (hl.new k p hx).2.1 hy), hl.len, hl.ent, hl.kids.touch ht (fun k p hx hy => (hl.far k p hx).2.1 hy), hl.wf,
   fun d hd x hx => (hl.key d hd x hx).stay (ht.stay fun k _ hk hy => (hl.one.keys k hk).2.1 hy), hl.new, hl.far⟩

/-- All made anew: a tree of its own. -/
theorem Cl2.tree {h B g lo hi : Nat} {n : Nd (Kid h)} {W : World} {a : Option Addr} {c : Nat} {es' : List CE} {a2 : Option Addr} {c2 : Nat} {ks' : List (Kid h)} {K' K0 : Nat → Prop} {W0 : World} (t : Tree (h + 1) lo hi W0 K0 n) (hl : Cl2 h B g n.es n.ks n.ks.length W a c es' a2 c2 ks' K')
    (hg : Lit W g [.slice a n.es.length c, .slice a2 n.ks.length c2]) (hgB : B ≤ g) :
    Tree (h + 1) lo hi W K' (⟨g, a, c, a2, c2, es', ks'⟩ : Nd (Kid h)) ∧ entN (h + 1) (⟨g, a, c, a2, c2, es', ks'⟩ : Nd (Kid h)) = entN (h + 1) n ∧ (∀ k p, foot (h + 1) (⟨g, a, c, a2, c2, es', ks'⟩ : Nd (Kid h)) k p → B ≤ k) := by
  obtain ⟨g0, g1, _, _⟩ := hg.two
  have hents : entsC es' = entsC n.es := by rw [hl.one.ent, List.take_of_length_le (by rw [entsC_len]; exact Nat.le_refl _)]
  have hkent : ks'.map (entN h) = n.ks.map (entN h) := by rw [hl.ent, List.take_of_length_le (by rw [List.length_map]; exact Nat.le_refl _)]
  have hent : entN (h + 1) (⟨g, a, c, a2, c2, es', ks'⟩ : Nd (Kid h)) = entN (h + 1) n := by
    cases h with
    | zero => exact hents
    | succ h =>
      rw [entN_node, entN_node]
      show weave (ks'.map (entN (h + 1))) (entsC es') = _
      rw [hkent, hents]
  have hself : SelfN W (kg h) (⟨g, a, c, a2, c2, es', ks'⟩ : Nd (Kid h)) := by
    refine ⟨?_, ?_, hg.fz, ?_, ?_, fun k p hx hy => (hl.one.new k p hy).2.1 hx.1, fun k p hx hy => (hl.new k p hy).2.1 hx.1, fun k p hx hy => (hl.new k p hy).2.2.2 hx⟩
    · show W.cell? ⟨g, 0, none⟩ = some (.slice a es'.length c)
      rw [hl.one.len]; exact g0
    · show W.cell? ⟨g, 1, none⟩ = some (.slice a2 (ks'.map (kg h)).length c2)
      rw [List.length_map, hl.len]; exact g1
    · show RowS 2 W a es'.length c (flatC es')
      rw [hl.one.len]; exact hl.one.row
    · show RowS 1 W a2 (ks'.map (kg h)).length c2 ((ks'.map (kg h)).map nv)
      rw [List.length_map, hl.len]; exact hl.row
  have hown : ∀ k p, own (⟨g, a, c, a2, c2, es', ks'⟩ : Nd (Kid h)) k p → B ≤ k ∧ ¬ K' k := by
    rintro k p (hx | hx | hx)
    · have h1 := hx.1
      change k = g at h1
      exact ⟨by omega, fun hk => (hl.one.keys k hk).2.1 h1⟩
    · exact ⟨(hl.one.new k p hx).1, (hl.one.new k p hx).2.2⟩
    · exact ⟨(hl.new k p hx).1, (hl.new k p hx).2.2.1⟩
  refine ⟨⟨InN.mk hself (fun k p hx hy => ?_) hl.kids, ⟨?_, ?_, fun hh => ?_, hl.wf⟩, by rw [hent]; exact t.srt, fun x hx => ?_, fun k p hx hk => ?_, fun k hk => (hl.one.keys k hk).2.2⟩, hent, fun k p hx => ?_⟩
  · obtain ⟨_, q2, _, q4, q5⟩ := hl.far k p hy
    rcases hx with hx | hx | hx
    · exact q2 hx.1
    · exact q4 hx
    · exact q5 hx
  · show lo ≤ es'.length
    rw [hl.one.len]; exact t.wf.1
  · show es'.length ≤ hi
    rw [hl.one.len]; exact t.wf.2.1
  · show ks'.length = es'.length + 1
    rw [hl.len, hl.one.len]; exact t.wf.2.2.1 hh
  · cases h with
    | zero => exact hl.one.key x hx
    | succ h =>
      have hlen : (⟨g, a, c, a2, c2, es', ks'⟩ : Nd (Kid (h + 1))).ks.length = (⟨g, a, c, a2, c2, es', ks'⟩ : Nd (Kid (h + 1))).es.length + 1 := by
        show ks'.length = es'.length + 1
        rw [hl.len, hl.one.len]; exact t.wf.2.2.1 (by omega)
      rcases (mem_kid hlen).1 hx with h1 | ⟨d, hd, h1⟩
      · exact hl.one.key x h1
      · exact hl.key d hd x h1
  · rcases hx with hx | ⟨d, hd, hx⟩
    · exact (hown k p hx).2 hk
    · exact (hl.far k p ⟨d, hd, hx⟩).2.2.1 hk
  · rcases hx with hx | ⟨d, hd, hx⟩
    · exact (hown k p hx).1
    · exact (hl.far k p ⟨d, hd, hx⟩).1

set_option maxRecDepth 100000 in
set_option maxHeartbeats 4000000 in
theorem clone_node_is (h : Nat) (ih : CloneC h) (n : Nd (Kid h)) (lo hi : Nat) (K : Nat → Prop) (w : World) (hhi : hi ≤ 8) (t : Tree (h + 1) lo hi w K n) :
    Calls Try.prog 37 #[.pointer (some ⟨n.g, 0, none⟩)] w fun e w' => ∃ (n' : Nd (Kid h)) (K' : Nat → Prop), e = .returned (.pointer (some ⟨n'.g, 0, none⟩)) ∧ CloneS (h + 1) lo hi w w' n n' K' := by
  have mixed : Try.prog.follows Departure.mixedOrders = true := by kernel_rfl
  obtain ⟨M, hM⟩ : ∃ M, n.es.length = M := ⟨_, rfl⟩
  obtain ⟨N, hN⟩ : ∃ N, n.ks.length = N := ⟨_, rfl⟩
  have hM8 : M ≤ 8 := by rw [← hM]; exact Nat.le_trans t.wf.2.1 hhi
  have hN9 : N ≤ 9 := by have := kid_klen t.wf; omega
  obtain ⟨g, hg⟩ : ∃ g, w.heap.size = g := ⟨_, rfl⟩
  obtain ⟨ie, E⟩ := elE
  obtain ⟨ip, E'⟩ := elP
  have hbw := Below.allocs w (.cells #[.slice none 0 0, .slice none 0 0] 56)
  have hbx := Lit.new w [.slice none 0 0, .slice none 0 0] 56 (by intro v hv; simp at hv; subst hv; rfl)
  rw [hg] at hbx
  obtain ⟨V, hV⟩ : ∃ V, w.alloc (.cells #[.slice none 0 0, .slice none 0 0] 56) = V := ⟨_, rfl⟩
  rw [show ([Value.slice none 0 0, Value.slice none 0 0] : List Value).toArray = (#[.slice none 0 0, .slice none 0 0] : Array Value) from rfl] at hbx
  rw [hV] at hbw hbx
  have HT := Lib.hid t
  have HM := Lib.hid (And.intro hM hN)
  have HV := Lib.hid hV
  have HBW := Lib.hid hbw
  have HBX := Lib.hid hbx
  have HG := Lib.hid hg
  have a0 := t.inn.self.g0
  have alt : n.g < w.heap.size := t.inn.self.lt
  rw [hM] at a0
  have hrd : ∀ W, Below w.heap.size w W → (W.cell? ⟨n.g, 1, none⟩ = some (.slice n.ca N n.cc) ∧ RowS 2 W n.ea M n.ec (flatC n.es) ∧ RowS 1 W n.ca N n.cc ((n.ks.map (kg h)).map nv)) := fun W hb => by
    have s := (t.inn.below hb).self
    have a1 := s.g1
    have r1 := s.er
    have r2 := s.cr
    rw [List.length_map, hN] at a1 r2
    rw [hM] at r1
    exact ⟨a1, r1, r2⟩
  have HRD := Lib.hid hrd
  have nce : M ≤ n.ec := by have := t.inn.self.er.nc; rwa [hM] at this
  have ncm : n.ec ≤ 9223372036854775807 := by have := t.inn.self.er.cm; unfold maxLen at this; omega
  have ncc : N ≤ n.cc := by have := t.inn.self.cr.nc; rwa [List.length_map, hN] at this
  have ncm2 : n.cc ≤ 9223372036854775807 := by have := t.inn.self.cr.cm; unfold maxLen at this; omega
  clear t hV hbw hbx hM hN hrd hg
  go_enter Try.func37, Try.ntmps37
  go_wp2_with fail
  rw [HV.out]
  simp only [HG.out]
  go_loopg [5, 17] M (fun gg s5 s17 wr => ∃ (i : Nat) (a : Option Addr) (c : Nat) (es' : List CE) (K' : Nat → Prop), s17 = .int .i64 i ∧ i ≤ M ∧ M - i ≤ gg ∧ Hid (Cl1 g g n.es i wr a c es' K') ∧ Hid (Lit wr g [.slice a i c, .slice none 0 0]) ∧ Hid (Below g w wr))
  case atStart => exact ⟨0, none, 0, [], fun _ => False, rfl, Nat.zero_le _, by omega, Lib.hid ⟨RowS.nil _ _, rfl, rfl, fun _ h => absurd h List.not_mem_nil, fun k p hk => absurd hk (slf_nil _ _ _ _), fun _ h => h.elim⟩, HBX, Lib.hid (by rw [← HG.out]; exact HBW.out)⟩
  case round =>
    obtain ⟨i, a, c, es', K', rfl, hiM, hgg, HC, HL, HB⟩ := hrel
    have HBw : Hid (Below w.heap.size w wr) := Lib.hid (by rw [HG.out]; exact HB.out)
    by_cases hlt : i < M
    · have hltz : (i : Int) < (M : Int) := by omega
      have z1 : ¬ M ≤ i := by omega
      obtain ⟨x, hx⟩ : ∃ x, n.es[i]? = some x := ⟨n.es[i]'(by rw [HM.out.1]; exact hlt), by simp⟩
      have tr := HT.out.below HBw.out
      obtain ⟨eb, eo, hea, d0, d1, _, _, dlt⟩ := ent_at (HRD.out wr HBw.out).2.1 hx
      rw [hea]
      have hkx := tr.keyE x (List.mem_of_getElem? hx)
      -- the entry's box
      have bal := Below.allocs wr (.cells #[.slice x.a x.e.key.length x.c, .int .i64 x.e.id] 37)
      have LE := Lit.entry wr x.a x.e.key.length x.c x.e.id
      obtain ⟨W1, hW1⟩ : ∃ W1, wr.alloc (.cells #[.slice x.a x.e.key.length x.c, .int .i64 x.e.id] 37) = W1 := ⟨_, rfl⟩
      obtain ⟨b, hb⟩ : ∃ b, wr.heap.size = b := ⟨_, rfl⟩
      rw [hW1] at bal LE
      rw [hb] at LE
      have hec := fun W (hb : Below W1.heap.size W1 W) => eclone_is x.a x.c x.e.key.length x.e.key x.e.id rfl hkx.2.2 W (hkx.1.sl.below (below_tr bal hb))
      have HEC := Lib.hid hec
      have HKX := Lib.hid hkx
      have HEA := Lib.hid hea
      have HX := Lib.hid hx
      have HW1 := Lib.hid hW1
      have HBb := Lib.hid hb
      have HLE := Lib.hid LE
      have HBA := Lib.hid bal
      have HL1 := Lib.hid (HL.out.below bal)
      obtain ⟨p0, p1, _, _⟩ := HL1.out.two
      obtain ⟨e0, e1, _, _⟩ := LE.two
      have glt : g < W1.heap.size := HL1.out.lt
      have blt : b < W1.heap.size := LE.lt
      have HS0 : Hid (W1.drew.cell? ⟨g, 0, none⟩ = some (.slice a i c) ∧ W1.drew.cell? ⟨b, 0, none⟩ = some (.slice x.a x.e.key.length x.c) ∧ W1.drew.cell? ⟨b, 1, none⟩ = some (.int .i64 x.e.id)) := Lib.hid ⟨p0, e0, e1⟩
      have HGB : Hid (g < b ∧ g < W1.heap.size ∧ b < W1.heap.size) := Lib.hid ⟨by rw [← hb]; exact HL.out.lt, glt, blt⟩
      clear tr hkx hec bal LE hW1 hb hea hx
      go_wp2_with fail
      rw [HW1.out]
      simp only [HBb.out]
      clear d0 d1 dlt p0 p1 e0 e1 glt blt
      refine RX.wp_region_lastH 9 (fun W => W.cell? ⟨g, 0, none⟩ = some (.slice a i c) ∧ W.cell? ⟨b, 0, none⟩ = some (.slice x.a x.e.key.length x.c) ∧ W.cell? ⟨b, 1, none⟩ = some (.int .i64 x.e.id)) mixed (by kernel_rfl) ?_
      simp only [List.take_succ_cons, List.take_zero, List.drop_succ_cons, List.drop_zero]
      refine wpAnyH_take (i := 0) (oi := _) (v := .pointer (some ⟨g, 0, none⟩)) rfl (by kernel_rfl) (by kernel_rfl) (by kernel_rfl) (fun _ _ _ h => h) (Or.inl ⟨by rfl, fun w' hw' => ?_⟩) (HS0.out) ?_
      · go_simp
        try first | with_reducible rfl | simp
      refine wpAnyH_take (i := 1) (oi := _) (v := .pointer (some ⟨g, 0, none⟩)) rfl (by kernel_rfl) (by kernel_rfl) (by kernel_rfl) (fun _ _ _ h => h) (Or.inl ⟨by rfl, fun w' hw' => ?_⟩) (HS0.out) ?_
      · go_simp
        try first | with_reducible rfl | simp
      refine wpAnyH_take (i := 2) (oi := _) (v := .pointer (some ⟨g, 0, none⟩)) rfl (by kernel_rfl) (by kernel_rfl) (by kernel_rfl) (fun _ _ _ h => h) (Or.inl ⟨by rfl, fun w' hw' => ?_⟩) (HS0.out) ?_
      · go_simp
        try first | with_reducible rfl | simp
      refine wpAnyH_take (i := 3) (oi := _) (v := .pointer (some ⟨g, 0, none⟩)) rfl (by kernel_rfl) (by kernel_rfl) (by kernel_rfl) (fun _ _ _ h => h) (Or.inl ⟨by rfl, fun w' hw' => ?_⟩) (HS0.out) ?_
      · go_simp
        try first | with_reducible rfl | simp
      refine wpAnyH_take (i := 4) (oi := _) (v := .slice a i c) rfl (by kernel_rfl) (by kernel_rfl) (by kernel_rfl) (fun _ _ _ h => h) (Or.inl ⟨by rfl, fun w' hw' => ?_⟩) (HS0.out) ?_
      · obtain ⟨j0, j1, j2⟩ := hw'
        go_simp
        try first | with_reducible rfl | simp
      refine wpAnyH_take (i := 5) (oi := _) (v := .agg #[.slice x.a x.e.key.length x.c, .int .i64 x.e.id]) rfl (by kernel_rfl) (by kernel_rfl) (by kernel_rfl) (fun _ _ _ h => h) (Or.inl ⟨by rfl, fun w' hw' => ?_⟩) (HS0.out) ?_
      · obtain ⟨j0, j1, j2⟩ := hw'
        go_simp
        try first | with_reducible rfl | simp
      refine RX.anyH_call (i := 6) (f := 35) (args := #[.agg #[.slice x.a x.e.key.length x.c, .int .i64 x.e.id]]) (by kernel_rfl) rfl (by rfl) (by go_simp) ?_
      refine (show Calls Try.prog _ _ _ _ from HEC.out _ (below_drw W1)).mono ?_
      rintro e w3 ⟨a3, c3, rfl, hy0, hb3⟩
      have HY0 := Lib.hid hy0
      have HB3 : Hid (Below W1.heap.size W1 w3) := Lib.hid (below_tr (below_drw W1) hb3)
      obtain ⟨y, hy⟩ : ∃ y : CE, y = ⟨a3, c3, x.e⟩ := ⟨_, rfl⟩
      obtain rfl : a3 = y.a := by rw [hy]
      obtain rfl : c3 = y.c := by rw [hy]
      have HYE : Hid (y.e = x.e) := Lib.hid (by rw [hy])
      clear hy
      have HS3 : Hid (w3.cell? ⟨g, 0, none⟩ = some (.slice a i c) ∧ w3.cell? ⟨b, 0, none⟩ = some (.slice x.a x.e.key.length x.c) ∧ w3.cell? ⟨b, 1, none⟩ = some (.int .i64 x.e.id)) := Lib.hid (by
        obtain ⟨q0, q1, q2⟩ := HS0.out
        exact ⟨by rw [hb3.cell (p := ⟨g, 0, none⟩) HGB.out.2.1]; exact q0, by rw [hb3.cell (p := ⟨b, 0, none⟩) HGB.out.2.2]; exact q1, by rw [hb3.cell (p := ⟨b, 1, none⟩) HGB.out.2.2]; exact q2⟩)
      have hal := Below.allocs w3 (.cells #[.slice y.a x.e.key.length y.c, .int .i64 x.e.id] 37)
      have HS4 : Hid ((w3.alloc (.cells #[.slice y.a x.e.key.length y.c, .int .i64 x.e.id] 37)).cell? ⟨g, 0, none⟩ = some (.slice a i c) ∧ (w3.alloc (.cells #[.slice y.a x.e.key.length y.c, .int .i64 x.e.id] 37)).cell? ⟨b, 0, none⟩ = some (.slice x.a x.e.key.length x.c) ∧ (w3.alloc (.cells #[.slice y.a x.e.key.length y.c, .int .i64 x.e.id] 37)).cell? ⟨b, 1, none⟩ = some (.int .i64 x.e.id)) := Lib.hid (by
        obtain ⟨q0, q1, q2⟩ := HS3.out
        have l1 := Nat.lt_of_lt_of_le HGB.out.2.1 HB3.out.size
        have l2 := Nat.lt_of_lt_of_le HGB.out.2.2 HB3.out.size
        exact ⟨by rw [hal.cell (p := ⟨g, 0, none⟩) l1]; exact q0, by rw [hal.cell (p := ⟨b, 0, none⟩) l2]; exact q1, by rw [hal.cell (p := ⟨b, 1, none⟩) l2]; exact q2⟩)
      have lv := Lit.entry w3 y.a x.e.key.length y.c x.e.id
      have hsrc : Src Try.prog 2 33 (.slice (some ⟨w3.heap.size, 0, none⟩) 1 1) 1 [.slice y.a x.e.key.length y.c, .int .i64 x.e.id] (w3.alloc (.cells #[.slice y.a x.e.key.length y.c, .int .i64 x.e.id] 37)) := Src.ofSlice _ E.ut ⟨w3.heap.size, 0, none⟩ 1 1 _ (by simp) lv.at'.add lv.one
      obtain ⟨a', c', W5, hrun, har, hasub, hat⟩ := row_app E ((HC.out.below (below_tr HBA.out HB3.out)).row.below hal) _ 1 _ hsrc (by omega)
      have HSA : Hid (W5.cell? ⟨g, 0, none⟩ = some (.slice a i c) ∧ W5.cell? ⟨b, 0, none⟩ = some (.slice x.a x.e.key.length x.c) ∧ W5.cell? ⟨b, 1, none⟩ = some (.int .i64 x.e.id)) := Lib.hid (by
        obtain ⟨q0, q1, q2⟩ := HS4.out
        have l1 := Nat.lt_of_lt_of_le HGB.out.2.1 (below_tr HB3.out hal).size
        have l2 := Nat.lt_of_lt_of_le HGB.out.2.2 (below_tr HB3.out hal).size
        have hbr : ∀ p, ¬ SlF 2 a c b p := fun p hp => by have := HC.out.row.lt b p hp; have := HBb.out; omega
        exact ⟨by rw [hat.cell g 0 l1 (fun hp => (HC.out.new g 0 hp).2.1 rfl)]; exact q0, by rw [hat.cell b 0 l2 (hbr 0)]; exact q1, by rw [hat.cell b 1 l2 (hbr 1)]; exact q2⟩)
      clear hal lv hsrc hb3 hy0
      refine ⟨_, rfl, HS3.out, ?_⟩
      refine RX.anyH_val (i := 7) (v := .slice (some ⟨w3.heap.size, 0, none⟩) 1 1) (w' := w3.alloc (.cells #[.slice y.a x.e.key.length y.c, .int .i64 x.e.id] 37)) (by kernel_rfl) rfl (by rfl) (by go_simp) (HS4.out) ?_
      refine RX.anyH_app (i := 8) (v := .slice a i c) (u := .slice (some ⟨w3.heap.size, 0, none⟩) 1 1) (.tmp 25) (.tmp 28) (33) (33) (by kernel_rfl) rfl (by rfl) rfl (by go_simp) (by go_simp) (hrun _) (HSA.out) ?_
      refine wpAnyH_done (by kernel_rfl) ?_ _
      unfold RX.lastQ
      -- the entry stands in the row
      obtain ⟨q0, _, _⟩ := HSA.out
      have hl5 : Lit W5 g [.slice a i c, .slice none 0 0] := ((HL1.out.below HB3.out).below (Below.allocs w3 (.cells #[.slice y.a x.e.key.length y.c, .int .i64 x.e.id] 37))).touch hat (fun p hp => by have := (HC.out.new g p hp).2.1; exact this rfl)
      obtain ⟨q0', q1', f0, f1⟩ := hl5.two
      have glt := hl5.lt
      have hrw : wr.heap.size ≤ W1.heap.size := HBA.out.size
      have hb3 := HB3.out
      have hY : SlG (fun k => wr.heap.size ≤ k) w3 y.a y.c y.e.key := by rw [HYE.out]; exact HY0.out.mono (fun k _ hk => Nat.le_trans hrw hk)
      have hat3 : TouchC (SlF 2 a c) w3 W5 := (TouchC.of_below (Below.allocs w3 (.cells #[.slice y.a x.e.key.length y.c, .int .i64 x.e.id] 37))).trans hat (fun _ _ _ h => h)
      have hsub3 : ∀ k p, SlF 2 a' c' k p → SlF 2 a c k p ∨ w3.heap.size ≤ k := fun k p hk => (hasub k p hk).imp (fun q => q) (fun q => Nat.le_trans (by rw [World.size_alloc]; exact Nat.le_succ _) (show (w3.alloc (.cells #[.slice y.a x.e.key.length y.c, .int .i64 x.e.id] 37)).heap.size ≤ k from q))
      have hn1 := HC.out.next (y := y) (W3 := w3) (W5 := W5) (by rw [← HG.out]; exact HBw.out.size) (HL.out.lt) HX.out (below_tr HBA.out hb3) hY HYE.out HKX.out.2 (by rw [show y.cs = [.slice y.a x.e.key.length y.c, .int .i64 x.e.id] by unfold CE.cs; rw [HYE.out]]; exact har) hsub3 hat3
      obtain ⟨W6, hW6⟩ : ∃ W6, W5.setCell ⟨g, 0, none⟩ (.slice a' (i + 1) c') = W6 := ⟨_, rfl⟩
      have t56 : TouchC (fun k _ => k = g) W5 W6 := by rw [← hW6]; exact TouchC.setCell (F := fun k _ => k = g) (TouchC.refl _ _) rfl _
      have HC6 := Lib.hid (hn1.touch t56 (fun k p hx hy => (hn1.new k p hx).2.1 hy) (fun k _ hk hy => (hn1.keys k hk).2.1 hy))
      have HL6 : Hid (Lit W6 g [.slice a' (i + 1) c', .slice none 0 0]) := Lib.hid (by rw [← hW6]; exact lit_put0 hl5 rfl)
      have HB6 : Hid (Below g w W6) := Lib.hid (by
        have h1 : Below wr.heap.size wr w3 := below_tr HBA.out hb3
        have h2 : TouchC (SlF 2 a c) wr W5 := (TouchC.of_below h1).trans hat3 (fun _ _ _ h => h)
        have h3 : TouchC (fun k _ => g ≤ k) wr W6 := (h2.mono (fun k p _ hk => (HC.out.new k p hk).1)).trans t56 (fun k _ _ hk => Nat.le_of_eq hk.symm)
        have h4 : Touch (fun k => g ≤ k) wr W6 := h3.touch (fun _ _ _ h => h)
        have h5 : Below g wr W6 := h4.below (fun _ h => h) (by rw [← HG.out]; exact HBw.out.size)
        exact HB.out.trans h5)
      have HW6 := Lib.hid hW6
      clear hW6 t56 hn1 hsub3 hat3 hY hb3 hl5 q0' q1' hrun har hasub hat
      have hq0 := q0
      go_wp2_with fail
      rw [HW6.out]
      rw [← HEA.out]
      go_roundg (M - (i + 1))
      case measure => omega
      case rel => exact ⟨i + 1, a', c', _, _, by go_num, by omega, Nat.le_refl _, HC6, HL6, HB6⟩
    · have hltz : ¬ (i : Int) < (M : Int) := by omega
      obtain rfl : i = M := by omega
      have a1 := (HRD.out wr HBw.out).1
      have alt : n.g < wr.heap.size := (HT.out.inn.below HBw.out).self.lt
      have HC20 : Hid (Cl2 h g g n.es n.ks 0 wr a c es' none 0 [] K') := Lib.hid ⟨by rw [HM.out.1]; exact HC.out, RowS.nil _ _, rfl, rfl, kids_nil _ _, fun _ h => absurd h List.not_mem_nil, fun _ h => absurd h List.not_mem_nil, fun k p hk => absurd hk (slf_nil _ _ _ _), fun k p hk => absurd hk (footL_nil _ _ _)⟩
      clear hltz
      go_wp2_with fail
      go_loopg [7, 38] N (fun gg s7 s38 wr => ∃ (j : Nat) (a2 : Option Addr) (c2 : Nat) (ks' : List (Kid h)) (K2 : Nat → Prop), s38 = .int .i64 j ∧ j ≤ N ∧ N - j ≤ gg ∧ Hid (Cl2 h g g n.es n.ks j wr a c es' a2 c2 ks' K2) ∧ Hid (Lit wr g [.slice a i c, .slice a2 j c2]) ∧ Hid (Below g w wr))
      case atStart => exact ⟨0, none, 0, [], K', rfl, Nat.zero_le _, by omega, HC20, HL, HB⟩
      case round =>
        obtain ⟨j, a2, c2, ks', K2, rfl, hjN, hgg2, HC2, HL2, HB2⟩ := hrel
        have HBq : Hid (Below w.heap.size w wr) := Lib.hid (by rw [HG.out]; exact HB2.out)
        clear a1 alt
        by_cases hlt2 : j < N
        · have hltz : (j : Int) < (N : Int) := by omega
          have z1 : ¬ N ≤ j := by omega
          obtain ⟨d, hd⟩ : ∃ d, n.ks[j]? = some d := ⟨n.ks[j]'(by rw [HM.out.2]; exact hlt2), by simp⟩
          have hdm := List.mem_of_getElem? hd
          obtain ⟨cb, co, hca, k0, _, klt⟩ := kid_at (HRD.out wr HBq.out).2.2 (i := j) (g := kg h d) (by simp [hd])
          rw [hca]
          have tq := HT.out.below HBq.out
          have td : Tree h 3 7 wr K d := by
            cases h with
            | zero => exact Empty.elim d
            | succ h => exact tq.kid hd
          have hcl := fun W (hb : Below wr.heap.size wr W) => ih d 3 7 K W (by omega) (td.below hb)
          have HCL := Lib.hid hcl
          have HCA := Lib.hid hca
          have HD := Lib.hid hd
          obtain ⟨p0, p1, _, _⟩ := HL2.out.two
          have glt := HL2.out.lt
          have HS0 : Hid (wr.drew.cell? ⟨g, 1, none⟩ = some (.slice a2 j c2)) := Lib.hid p1
          clear hcl td tq hca hd hdm
          go_wp2_with fail
          clear k0 klt p0 p1 glt
          refine RX.wp_region_lastH 9 (fun W => W.cell? ⟨g, 1, none⟩ = some (.slice a2 j c2)) mixed (by kernel_rfl) ?_
          simp only [List.take_succ_cons, List.take_zero, List.drop_succ_cons, List.drop_zero]
          refine wpAnyH_take (i := 0) (oi := _) (v := .pointer (some ⟨g, 0, none⟩)) rfl (by kernel_rfl) (by kernel_rfl) (by kernel_rfl) (fun _ _ _ h => h) (Or.inl ⟨by rfl, fun w' hw' => ?_⟩) (HS0.out) ?_
          · go_simp
            try first | with_reducible rfl | simp
          refine wpAnyH_take (i := 1) (oi := _) (v := .pointer (some ⟨g, 0, none⟩)) rfl (by kernel_rfl) (by kernel_rfl) (by kernel_rfl) (fun _ _ _ h => h) (Or.inl ⟨by rfl, fun w' hw' => ?_⟩) (HS0.out) ?_
          · go_simp
            try first | with_reducible rfl | simp
          refine wpAnyH_take (i := 2) (oi := _) (v := .pointer (some ⟨g, 0, none⟩)) rfl (by kernel_rfl) (by kernel_rfl) (by kernel_rfl) (fun _ _ _ h => h) (Or.inl ⟨by rfl, fun w' hw' => ?_⟩) (HS0.out) ?_
          · go_simp
            try first | with_reducible rfl | simp
          refine wpAnyH_take (i := 3) (oi := _) (v := .pointer (some ⟨g, 1, none⟩)) rfl (by kernel_rfl) (by kernel_rfl) (by kernel_rfl) (fun _ _ _ h => h) (Or.inl ⟨by rfl, fun w' hw' => ?_⟩) (HS0.out) ?_
          · go_simp
            try first | with_reducible rfl | simp
          refine wpAnyH_take (i := 4) (oi := _) (v := .slice a2 j c2) rfl (by kernel_rfl) (by kernel_rfl) (by kernel_rfl) (fun _ _ _ h => h) (Or.inl ⟨by rfl, fun w' hw' => ?_⟩) (HS0.out) ?_
          · have j0 := hw'
            go_simp
            try first | with_reducible rfl | simp
          refine wpAnyH_take (i := 5) (oi := _) (v := .pointer (some ⟨kg h d, 0, none⟩)) rfl (by kernel_rfl) (by kernel_rfl) (by kernel_rfl) (fun _ _ _ h => h) (Or.inl ⟨by rfl, fun w' hw' => ?_⟩) (HS0.out) ?_
          · go_simp
            try first | with_reducible rfl | simp
          refine RX.anyH_call (i := 6) (f := 37) (args := #[.pointer (some ⟨kg h d, 0, none⟩)]) (by kernel_rfl) rfl (by rfl) (by go_simp) ?_
          refine (show Calls Try.prog _ _ _ _ from HCL.out _ (below_drw wr)).mono ?_
          rintro e w3 ⟨d', Kd, rfl, hcs0⟩
          have HCS := Lib.hid hcs0
          have hb3 := hcs0.1
          have HS3 : Hid (w3.cell? ⟨g, 1, none⟩ = some (.slice a2 j c2)) := Lib.hid (by rw [hb3.cell (p := ⟨g, 1, none⟩) HL2.out.lt]; exact HS0.out)
          have hal := Below.allocs w3 (.cells #[.pointer (some ⟨kg h d', 0, none⟩)] 51)
          have hsz3 : g < w3.heap.size := Nat.lt_of_lt_of_le HL2.out.lt (below_tr (below_drw wr) hb3).size
          have HS4 : Hid ((w3.alloc (.cells #[.pointer (some ⟨kg h d', 0, none⟩)] 51)).cell? ⟨g, 1, none⟩ = some (.slice a2 j c2)) := Lib.hid (by rw [hal.cell (p := ⟨g, 1, none⟩) hsz3]; exact HS3.out)
          have lv := Lit.new w3 [.pointer (some ⟨kg h d', 0, none⟩)] 51 (by intro v hv; simp at hv; subst hv; rfl)
          have hsrc : Src Try.prog 1 54 (.slice (some ⟨w3.heap.size, 0, none⟩) 1 1) 1 [.pointer (some ⟨kg h d', 0, none⟩)] (w3.alloc (.cells #[.pointer (some ⟨kg h d', 0, none⟩)] 51)) := Src.ofSlice _ E'.ut ⟨w3.heap.size, 0, none⟩ 1 1 _ (by simp) lv.at'.add lv.one
          obtain ⟨a', c', W5, hrun, har, hasub, hat⟩ := row_app E' ((HC2.out.below (below_tr (below_drw wr) hb3)).row.below hal) _ 1 _ hsrc (by omega)
          have HSA : Hid (W5.cell? ⟨g, 1, none⟩ = some (.slice a2 j c2)) := Lib.hid (by rw [hat.cell g 1 (Nat.lt_of_lt_of_le hsz3 hal.size) (fun hp => (HC2.out.new g 1 hp).2.1 rfl)]; exact HS4.out)
          clear hal lv hsrc hb3 hcs0 hsz3
          refine ⟨_, rfl, HS3.out, ?_⟩
          refine RX.anyH_val (i := 7) (v := .slice (some ⟨w3.heap.size, 0, none⟩) 1 1) (w' := w3.alloc (.cells #[.pointer (some ⟨kg h d', 0, none⟩)] 51)) (by kernel_rfl) rfl (by rfl) (by go_simp) (HS4.out) ?_
          refine RX.anyH_app (i := 8) (v := .slice a2 j c2) (u := .slice (some ⟨w3.heap.size, 0, none⟩) 1 1) (.tmp 46) (.tmp 49) (54) (54) (by kernel_rfl) rfl (by rfl) rfl (by go_simp) (by go_simp) (hrun _) (HSA.out) ?_
          refine wpAnyH_done (by kernel_rfl) ?_ _
          unfold RX.lastQ
          obtain ⟨hb3, td', hent', hfoot', hkk'⟩ := HCS.out
          have hl5 : Lit W5 g [.slice a i c, .slice a2 j c2] := ((HL2.out.below (below_tr (below_drw wr) hb3)).below (Below.allocs w3 (.cells #[.pointer (some ⟨kg h d', 0, none⟩)] 51))).touch hat (fun p hp => (HC2.out.new g p hp).2.1 rfl)
          obtain ⟨q0', q1', f0, f1⟩ := hl5.two
          have glt := hl5.lt
          have hat3 : TouchC (SlF 1 a2 c2) w3 W5 := (TouchC.of_below (Below.allocs w3 (.cells #[.pointer (some ⟨kg h d', 0, none⟩)] 51))).trans hat (fun _ _ _ h => h)
          have hsub3 : ∀ k p, SlF 1 a' c' k p → SlF 1 a2 c2 k p ∨ w3.heap.size ≤ k := fun k p hk => (hasub k p hk).imp (fun q => q) (fun q => Nat.le_trans (by rw [World.size_alloc]; exact Nat.le_succ _) (show (w3.alloc (.cells #[.pointer (some ⟨kg h d', 0, none⟩)] 51)).heap.size ≤ k from q))
          have hcs : CloneS h 3 7 wr w3 d d' Kd := ⟨below_tr (below_drw wr) hb3, td', hent', hfoot', hkk'⟩
          have hn1 := HC2.out.next (W5 := W5) (by rw [← HG.out]; exact HBq.out.size) HL2.out.lt HD.out hcs har hsub3 hat3
          obtain ⟨W6, hW6⟩ : ∃ W6, W5.setCell ⟨g, 1, none⟩ (.slice a' (j + 1) c') = W6 := ⟨_, rfl⟩
          have t56 : TouchC (fun k _ => k = g) W5 W6 := by rw [← hW6]; exact TouchC.setCell (F := fun k _ => k = g) (TouchC.refl _ _) rfl _
          have HC6 := Lib.hid (hn1.touchG t56)
          have HL6 : Hid (Lit W6 g [.slice a i c, .slice a' (j + 1) c']) := Lib.hid (by rw [← hW6]; exact lit_put1 hl5 rfl)
          have HB6 : Hid (Below g w W6) := Lib.hid (by
            have h1 : Below wr.heap.size wr w3 := below_tr (below_drw wr) hb3
            have h2 : TouchC (SlF 1 a2 c2) wr W5 := (TouchC.of_below h1).trans hat3 (fun _ _ _ h => h)
            have h3 : TouchC (fun k _ => g ≤ k) wr W6 := (h2.mono (fun k p _ hk => (HC2.out.new k p hk).1)).trans t56 (fun k _ _ hk => Nat.le_of_eq hk.symm)
            have h4 : Touch (fun k => g ≤ k) wr W6 := h3.touch (fun _ _ _ h => h)
            have h5 : Below g wr W6 := h4.below (fun _ h => h) (by rw [← HG.out]; exact HBq.out.size)
            exact HB2.out.trans h5)
          have HW6 := Lib.hid hW6
          clear hW6 t56 hn1 hcs hsub3 hat3 hb3 hl5 q0' hrun har hasub hat td' hent' hfoot' hkk'
          go_wp2_with fail
          rw [HW6.out]
          rw [← HCA.out]
          go_roundg (N - (j + 1))
          case measure => omega
          case rel => exact ⟨j + 1, a', c', _, _, by go_num, by omega, Nat.le_refl _, HC6, HL6, HB6⟩
        · have hltz : ¬ (j : Int) < (N : Int) := by omega
          obtain rfl : j = N := by omega
          go_wp2_with fail
          go_ret
          have hc2 := HC2.out
          rw [← HM.out.2] at hc2
          obtain ⟨t1, t2, t3⟩ := hc2.tree HT.out (by rw [HM.out.1, HM.out.2]; exact HL2.out) (Nat.le_refl _)
          exact ⟨⟨g, a, c, a2, c2, es', ks'⟩, rfl, K2, by rw [HG.out]; exact HB2.out, t1, t2, fun k p hk => by rw [HG.out]; exact t3 k p hk, fun k hk => by rw [HG.out]; exact (hc2.one.keys k hk).1⟩

theorem clone_is : ∀ h, CloneC h
  | 0 => fun _ _ _ _ _ _ t => absurd t.inn (fun h => h)
  | h + 1 => fun n lo hi K w hhi t => clone_node_is h (clone_is h) n lo hi K w hhi t

end Go.Proofs.Ytfikaccgpjiedaa

