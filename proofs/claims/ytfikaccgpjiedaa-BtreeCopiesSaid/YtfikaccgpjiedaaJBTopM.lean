/-
  A tree as its caller holds it: the block of the tree, its nodes, its keys; how many entries its height tells of.
-/
import Derived.Test.YtfikaccgpjiedaaJJ21
import Derived.Test.YtfikaccgpjiedaaJBSpec
namespace Go.Proofs.Ytfikaccgpjiedaa
open Go.RowKit Go.Lib

/-! ### What stays when whole blocks stay -/

theorem RowS.stay {G : Nat → Prop} {s : Nat} {W W' : World} {a : Option Addr} {n c : Nat} {vs : List Value} (h : RowS s W a n c vs) (hs : Stay G W W') (hG : ∀ k p, SlF s a c k p → G k) : RowS s W' a n c vs := by
  refine ⟨h.len, h.nc, h.cm, h.one, ?_⟩
  have hle : n * s ≤ c * s := Nat.mul_le_mul_right _ h.nc
  rcases h.at' with h1 | ⟨b, o, rfl, h2, h3, h4⟩
  · exact .inl h1
  · refine .inr ⟨b, o, rfl, Nat.lt_of_lt_of_le h2 hs.size, fun j u hu => ?_, fun j hj => ?_⟩
    · have hj := (List.getElem?_eq_some_iff.1 hu).1
      rw [hs.cell h2 (hG b (o + j) (slf_some.2 ⟨rfl, by omega, by rw [h.len] at hj; omega⟩))]
      exact h3 j u hu
    · have hg := hG b (o + j) (slf_some.2 ⟨rfl, by omega, by omega⟩)
      rw [hs.cell h2 hg, hs.frozen h2 hg]
      exact h4 j hj

theorem Self.stay {G : Nat → Prop} {W W' : World} {g : Nat} {ea : Option Addr} {ec : Nat} {ca : Option Addr} {cc : Nat} {es : List CE} {gs : List Nat} (h : Self W g ea ec ca cc es gs) (hs : Stay G W W')
    (h1 : G g) (h2 : ∀ k p, SlF 2 ea ec k p → G k) (h3 : ∀ k p, SlF 1 ca cc k p → G k) : Self W' g ea ec ca cc es gs := by
  have hl := h.lt
  exact ⟨by rw [hs.cell hl h1]; exact h.g0, by rw [hs.cell hl h1]; exact h.g1, fun j => by rw [hs.frozen hl h1]; exact h.fz j, h.er.stay hs h2, h.cr.stay hs h3, h.d1, h.d2, h.d3⟩

theorem InN.stay {G : Nat → Prop} {W W' : World} (hs : Stay G W W') : ∀ {h : Nat} {n : Kid h}, InN W h n → (∀ k p, foot h n k p → G k) → InN W' h n
  | 0, _, hn, _ => absurd hn id
  | h + 1, n, hn, hG => by
      refine ⟨Self.stay hn.1 hs (hG _ 0 (.inl (.inl ⟨rfl, by omega⟩))) (fun k p hk => hG k p (.inl (.inr (.inl hk)))) (fun k p hk => hG k p (.inl (.inr (.inr hk)))), hn.2.1, hn.2.2.1, fun c hc => ?_⟩
      exact InN.stay hs (hn.2.2.2 c hc) (fun k p hk => hG k p (.inr ⟨c, hc, hk⟩))

theorem Tree.stay {G : Nat → Prop} {h lo hi : Nat} {W W' : World} {K : Nat → Prop} {n : Kid h} (t : Tree h lo hi W K n) (hs : Stay G W W') (h1 : ∀ k p, foot h n k p → G k) (h2 : ∀ k, K k → G k) : Tree h lo hi W' K n :=
  ⟨t.inn.stay hs h1, t.wf, t.srt, fun x hx => (t.key x hx).stay (hs.mono h2), t.dis, fun k hk => Nat.lt_of_lt_of_le (t.klt k hk) hs.size⟩

theorem Lit.stay {G : Nat → Prop} {W W' : World} {g : Nat} {vs : List Value} (h : Lit W g vs) (hs : Stay G W W') (hG : G g) : Lit W' g vs :=
  ⟨Nat.lt_of_lt_of_le h.lt hs.size, fun j u hu => by rw [hs.cell h.lt hG]; exact h.at' j u hu, fun j => by rw [hs.frozen h.lt hG]; exact h.fz j, h.one⟩

theorem Tree.touch {h lo hi : Nat} {W W' : World} {K : Nat → Prop} {n : Kid h} {F : Ft} (t : Tree h lo hi W K n) (ht : TouchC F W W') (h1 : Dis (foot h n) F) (h2 : ∀ k p, K k → ¬ F k p) : Tree h lo hi W' K n :=
  ⟨t.inn.touch ht h1, t.wf, t.srt, fun x hx => (t.key x hx).stay (ht.stay fun k p hk => h2 k p hk), t.dis, fun k hk => Nat.lt_of_lt_of_le (t.klt k hk) ht.size⟩

theorem Tree.wfs {h lo hi lo' hi' : Nat} {W : World} {K : Nat → Prop} {n : Kid h} (t : Tree h lo hi W K n) (hw : wfN h lo' hi' n) : Tree h lo' hi' W K n := ⟨t.inn, hw, t.srt, t.key, t.dis, t.klt⟩

/-! ### The tree -/

/-- What the tree's root is. -/
def RootIs (W : World) (g : Nat) (r : Value) (L : List Ent) (F : Nat → Prop) : Prop :=
  (r = .pointer none ∧ L = []) ∨ ∃ (h : Nat) (n : Nd (Kid h)) (K : Nat → Prop), r = .pointer (some ⟨n.g, 0, none⟩) ∧ Tree (h + 1) 1 7 W K n ∧ entN (h + 1) n = L ∧ (∀ k p, foot (h + 1) n k p → F k ∧ k ≠ g) ∧ ∀ k, K k → F k ∧ k ≠ g

structure Top (W : World) (g : Nat) (L : List Ent) (F : Nat → Prop) : Prop where
  lit : ∃ r, Lit W g [r, .int .i64 (L.length : Int)] ∧ RootIs W g r L F
  mine : F g
  lt : ∀ k, F k → k < W.heap.size

theorem Top.stay {W W' : World} {g : Nat} {L : List Ent} {F : Nat → Prop} (t : Top W g L F) (hs : Stay F W W') : Top W' g L F := by
  obtain ⟨⟨r, hl, hr⟩, hm, hlt⟩ := t
  refine ⟨⟨r, hl.stay hs hm, ?_⟩, hm, fun k hk => Nat.lt_of_lt_of_le (hlt k hk) hs.size⟩
  rcases hr with hr | ⟨h, n, K, rfl, ht, he, hf, hk⟩
  · exact .inl hr
  · exact .inr ⟨h, n, K, rfl, ht.stay hs (fun k p h => (hf k p h).1) (fun k h => (hk k h).1), he, hf, hk⟩

theorem Top.srt {W : World} {g : Nat} {L : List Ent} {F : Nat → Prop} (t : Top W g L F) : Srt ltE L := by
  obtain ⟨⟨r, _, hr⟩, _, _⟩ := t
  rcases hr with ⟨_, rfl⟩ | ⟨h, n, K, _, ht, rfl, _, _⟩
  · exact List.Pairwise.nil
  · exact ht.srt

theorem Top.wf {W : World} {g : Nat} {L : List Ent} {F : Nat → Prop} (t : Top W g L F) : ∀ e ∈ L, I64 e.id ∧ ∀ v ∈ e.key, v.wf := by
  obtain ⟨⟨r, _, hr⟩, _, _⟩ := t
  rcases hr with ⟨_, rfl⟩ | ⟨h, n, K, _, ht, rfl, _, _⟩
  · exact fun _ h => absurd h List.not_mem_nil
  · intro e he
    obtain ⟨x, hx, rfl⟩ := List.mem_map.1 he
    have := ht.key x hx
    exact ⟨this.2.1, this.1.sl.wf⟩

/-! ### How high -/

theorem flatN_len {h lo hi : Nat} {n : Nd (Kid (h + 1))} (hw : wfN (h + 2) lo hi n) : (flatN (h + 2) n).length = n.es.length + (n.ks.map fun c => (flatN (h + 1) c).length).sum := by
  rw [flatN_node, weave_len _ _ (by rw [List.length_map]; exact hw.2.2.1 (by omega)), List.map_map]
  rfl

theorem wfN_low : ∀ (h : Nat) {lo hi : Nat} {n : Kid (h + 1)}, 1 ≤ lo → lo ≤ 3 → wfN (h + 1) lo hi n → (lo + 1) * 4 ^ h ≤ (flatN (h + 1) n).length + 1
  | 0, lo, hi, n, _, _, hw => by
      have h1 : lo ≤ (Nd.es (κ := Kid 0) n).length := hw.1
      have h2 : (flatN (0 + 1) n).length = (Nd.es (κ := Kid 0) n).length := rfl
      omega
  | h + 1, lo, hi, n, h1, h3, hw => by
      have ha : lo ≤ (Nd.es (κ := Kid (h + 1)) n).length := hw.1
      have hc : (Nd.ks (κ := Kid (h + 1)) n).length = (Nd.es (κ := Kid (h + 1)) n).length + 1 := hw.2.2.1 (by omega)
      have hd := hw.2.2.2
      rw [flatN_len hw]
      have hs := sum_low (f := fun c => (flatN (h + 1) c).length) (k := 4 ^ (h + 1) - 1) (l := Nd.ks (κ := Kid (h + 1)) n) fun c hcs => by
        have := wfN_low h (lo := 3) (by omega) (by omega) (hd c hcs)
        rw [Nat.pow_succ]
        omega
      have h4 : 1 ≤ 4 ^ (h + 1) := Nat.pow_pos (by omega)
      rw [hc] at hs
      have h5 : (lo + 1) * 4 ^ (h + 1) ≤ ((Nd.es (κ := Kid (h + 1)) n).length + 1) * 4 ^ (h + 1) := Nat.mul_le_mul_right _ (by omega)
      have h6 : ((Nd.es (κ := Kid (h + 1)) n).length + 1) * (4 ^ (h + 1) - 1) + ((Nd.es (κ := Kid (h + 1)) n).length + 1) = ((Nd.es (κ := Kid (h + 1)) n).length + 1) * 4 ^ (h + 1) := by
        rw [Nat.mul_sub, Nat.mul_one]
        have : (Nd.es (κ := Kid (h + 1)) n).length + 1 ≤ ((Nd.es (κ := Kid (h + 1)) n).length + 1) * 4 ^ (h + 1) := Nat.le_mul_of_pos_right _ h4
        omega
      omega

theorem wfN_high : ∀ (h : Nat) {lo : Nat} {n : Kid (h + 1)}, wfN (h + 1) lo 7 n → (flatN (h + 1) n).length + 1 ≤ 8 ^ (h + 1)
  | 0, lo, n, hw => by
      have h1 : (Nd.es (κ := Kid 0) n).length ≤ 7 := hw.2.1
      have h2 : (flatN (0 + 1) n).length = (Nd.es (κ := Kid 0) n).length := rfl
      omega
  | h + 1, lo, n, hw => by
      have hb : (Nd.es (κ := Kid (h + 1)) n).length ≤ 7 := hw.2.1
      have hc : (Nd.ks (κ := Kid (h + 1)) n).length = (Nd.es (κ := Kid (h + 1)) n).length + 1 := hw.2.2.1 (by omega)
      have hd := hw.2.2.2
      rw [flatN_len hw]
      have hs := sum_high (f := fun c => (flatN (h + 1) c).length) (k := 8 ^ (h + 1) - 1) (l := Nd.ks (κ := Kid (h + 1)) n) fun c hcs => by
        have := wfN_high h (hd c hcs)
        omega
      have h4 : 1 ≤ 8 ^ (h + 1) := Nat.pow_pos (by omega)
      rw [hc] at hs
      have h6 : ((Nd.es (κ := Kid (h + 1)) n).length + 1) * (8 ^ (h + 1) - 1) + ((Nd.es (κ := Kid (h + 1)) n).length + 1) = ((Nd.es (κ := Kid (h + 1)) n).length + 1) * 8 ^ (h + 1) := by
        rw [Nat.mul_sub, Nat.mul_one]
        have : (Nd.es (κ := Kid (h + 1)) n).length + 1 ≤ ((Nd.es (κ := Kid (h + 1)) n).length + 1) * 8 ^ (h + 1) := Nat.le_mul_of_pos_right _ h4
        omega
      have h5 : ((Nd.es (κ := Kid (h + 1)) n).length + 1) * 8 ^ (h + 1) ≤ 8 * 8 ^ (h + 1) := Nat.mul_le_mul_right _ (by omega)
      rw [Nat.pow_succ 8 (h + 1)]
      omega

/-- P7.5: the height of a tree that has entries is h + 1. -/
theorem Tree.high {h : Nat} {W : World} {K : Nat → Prop} {n : Kid (h + 1)} (t : Tree (h + 1) 1 7 W K n) : HighOk (entN (h + 1) n).length (h + 1) := by
  refine .inr ⟨h, rfl, ?_⟩
  have e : (entN (h + 1) n).length = (flatN (h + 1) n).length := List.length_map _
  rw [e]
  exact ⟨wfN_low h (by omega) (by omega) t.wf, wfN_high h t.wf⟩

/-- How low a tree of few entries is. -/
theorem Tree.few {h : Nat} {W : World} {K : Nat → Prop} {n : Kid (h + 1)} (t : Tree (h + 1) 1 7 W K n) (hl : (entN (h + 1) n).length ≤ 2000) : h ≤ 9 := by
  have e : (entN (h + 1) n).length = (flatN (h + 1) n).length := List.length_map _
  have h1 := wfN_low h (by omega) (by omega) t.wf
  apply Classical.byContradiction
  intro hh
  have h2 : 4 ^ 10 ≤ 4 ^ h := Nat.pow_le_pow_right (by omega) (by omega)
  omega

/-! ### What a step leaves -/

/-- A tree whose root is n, of which the call w began may have changed blocks of F. -/
structure TopAt (w : World) (F : Nat → Prop) (g : Nat) (m : Int) (L : List Ent) (lo hi h : Nat) (n : Nd (Kid h)) (K : Nat → Prop) (W : World) : Prop where
  lit : Lit W g [.pointer (some ⟨n.g, 0, none⟩), .int .i64 m]
  tree : Tree (h + 1) lo hi W K n
  ent : entN (h + 1) n = L
  ft : ∀ k p, foot (h + 1) n k p → (F k ∨ w.heap.size ≤ k) ∧ k ≠ g
  ky : ∀ k, K k → (F k ∨ w.heap.size ≤ k) ∧ k ≠ g
  mine : F g
  flt : ∀ k, F k → k < w.heap.size
  touch : Touch F w W

theorem TopAt.below {w : World} {F : Nat → Prop} {g : Nat} {m : Int} {L : List Ent} {lo hi h : Nat} {n : Nd (Kid h)} {K : Nat → Prop} {W W' : World} (t : TopAt w F g m L lo hi h n K W) (hb : Below W.heap.size W W') : TopAt w F g m L lo hi h n K W' :=
  ⟨t.lit.below hb, t.tree.below hb, t.ent, t.ft, t.ky, t.mine, t.flt, t.touch.trans (Touch.of_below (F := F) hb) (fun _ _ h => h)⟩

/-- The block of the tree is written. -/
theorem TopAt.set {w : World} {F : Nat → Prop} {g : Nat} {m : Int} {L : List Ent} {lo hi h : Nat} {n : Nd (Kid h)} {K : Nat → Prop} {W : World} (t : TopAt w F g m L lo hi h n K W) (m' : Int) : TopAt w F g m' L lo hi h n K (W.setCell ⟨g, 1, none⟩ (.int .i64 m')) := by
  have tc : TouchC (fun k _ => k = g) W (W.setCell ⟨g, 1, none⟩ (.int .i64 m')) := TouchC.setCell (F := fun k _ => k = g) (TouchC.refl _ _) rfl _
  exact ⟨lit_put1 t.lit rfl, t.tree.touch tc (fun k p hf => (t.ft k p hf).2) (fun k _ hk => (t.ky k hk).2), t.ent, t.ft, t.ky, t.mine, t.flt,
    t.touch.trans (tc.touch (G := fun k => k = g) (fun _ _ _ h => h)) (fun k _ h => by rw [h]; exact t.mine)⟩

/-- The tree is there. -/
theorem TopAt.top {w : World} {F : Nat → Prop} {g : Nat} {L : List Ent} {lo hi h : Nat} {n : Nd (Kid h)} {K : Nat → Prop} {W : World} (t : TopAt w F g (L.length : Int) L lo hi h n K W) (h1 : 1 ≤ n.es.length) (h7 : n.es.length ≤ 7) :
    ∃ F', Top W g L F' ∧ (∀ k, F' k → F k ∨ w.heap.size ≤ k) ∧ Touch F w W := by
  refine ⟨fun k => F k ∨ (w.heap.size ≤ k ∧ k < W.heap.size), ⟨⟨_, t.lit, .inr ⟨h, n, K, rfl, t.tree.wfs ⟨h1, h7, t.tree.wf.2.2⟩, t.ent, fun k p hf => ?_, fun k hk => ?_⟩⟩, .inl t.mine, fun k hk => ?_⟩, fun k hk => hk.imp id And.left, t.touch⟩
  · have := t.tree.inn.lt k p hf
    exact ⟨(t.ft k p hf).1.imp id (fun h => ⟨h, this⟩), (t.ft k p hf).2⟩
  · have := t.tree.klt k hk
    exact ⟨(t.ky k hk).1.imp id (fun h => ⟨h, this⟩), (t.ky k hk).2⟩
  · rcases hk with hk | hk
    · exact Nat.lt_of_lt_of_le (t.flt k hk) t.touch.size
    · exact hk.2

/-- It has become another one. -/
theorem TopAt.res {w : World} {F : Nat → Prop} {g : Nat} {m : Int} {L L' : List Ent} {lo hi lo' hi' h : Nat} {n n' : Nd (Kid h)} {K K' : Nat → Prop} {W W' : World} (t : TopAt w F g m L lo hi h n K W) (r : Res (h + 1) W W' n n') (t' : Tree (h + 1) lo' hi' W' K' n') (he : entN (h + 1) n' = L') (hK : ∀ k, K' k → K k ∨ W.heap.size ≤ k) : TopAt w F g m L' lo' hi' h n' K' W' := by
  have hgn : n'.g = n.g := r.g
  have hsz := t.touch.size
  have hglt := t.flt g t.mine
  refine ⟨by rw [hgn]; exact t.lit.touch r.tc (fun p hf => (t.ft g p hf).2 rfl), t', he, fun k p hf => ?_, fun k hk => ?_, t.mine, t.flt, t.touch.trans (r.tc.touch (G := fun k => F k ∨ w.heap.size ≤ k) (fun k p _ hf => (t.ft k p hf).1)) (fun k hk h => h.elim id (fun h => by omega))⟩
  · rcases r.ft k p hf with h1 | h1
    · exact t.ft k p h1
    · unfold Fr at h1
      exact ⟨.inr (by omega), by omega⟩
  · rcases hK k hk with h1 | h1
    · exact t.ky k h1
    · exact ⟨.inr (by omega), by omega⟩

/-- How many entries the root has. -/
theorem es_pos {h lo hi : Nat} {W : World} {K : Nat → Prop} {n : Nd (Kid h)} (t : Tree (h + 1) lo hi W K n) (hlo : h ≠ 0 → 1 ≤ lo) (hL : entN (h + 1) n ≠ []) : 1 ≤ n.es.length := by
  cases h with
  | zero =>
    have e : entN 1 n = entsC n.es := rfl
    rw [e] at hL
    cases hn : n.es with
    | nil => rw [hn] at hL; exact absurd rfl hL
    | cons x l => simp
  | succ h =>
    have h1 : lo ≤ n.es.length := t.wf.1
    have := hlo (by omega)
    omega

/-- A root above a root that has too many. -/
theorem TopAt.grow {w : World} {F : Nat → Prop} {g : Nat} {m : Int} {L : List Ent} {lo h : Nat} {n : Nd (Kid h)} {K : Nat → Prop} {W W3 W4 : World} (t : TopAt w F g m L lo 8 h n K W) (h8 : n.es.length = 8) (b : Nat) (hb : Below W.heap.size W W3) (hB : W.heap.size ≤ b) (hlk : Lit W3 b [.pointer (some ⟨n.g, 0, none⟩)]) (hlr : Lit W3 (b + 1) [.slice none 0 0, .slice (some ⟨b, 0, none⟩) 1 1])
    (n1 : Nd (Nd (Kid h))) (hn1 : (⟨b + 1, none, 0, some ⟨b, 0, none⟩, 1, [], [n]⟩ : Nd (Nd (Kid h))) = n1) (hW4 : W3.setCell ⟨g, 0, none⟩ (.pointer (some ⟨b + 1, 0, none⟩)) = W4) :
    Torn h W4 n1 [] [] n 0 8 ∧
    ∀ (W5 : World) (x : CE), n.es[4]? = some x → SplitS h W4 W5 n1 [] [] n [] [] 4 x → ∃ n' : Nd (Nd (Kid h)), n'.es.length = 1 ∧ TopAt w F g m L 1 7 (h + 1) n' K W5 := by
  have hf0 : ∀ n2 : Nd (Nd (Kid h)), (⟨b + 1, none, 0, some ⟨b, 0, none⟩, 1, [], [n]⟩ : Nd (Nd (Kid h))) = n2 → flatN (h + 2) n2 = flatN (h + 1) n := by rintro _ rfl; rfl
  have e1 : n1.g = b + 1 := by rw [← hn1]
  have e2 : n1.ks = [n] := by rw [← hn1]
  have e3 : n1.es = [] := by rw [← hn1]
  have hsz := hb.size
  have hgl := t.flt g t.mine
  have hts := t.touch.size
  have tc : TouchC (fun k _ => k = g) W3 W4 := by rw [← hW4]; exact TouchC.setCell (F := fun k _ => k = g) (TouchC.refl _ _) rfl _
  have lk4 : Lit W4 b [.pointer (some ⟨n.g, 0, none⟩)] := hlk.touch tc (fun p hp => by omega)
  have lr4 := hlr.touch tc (fun p hp => by omega)
  have t4 : Tree (h + 1) lo 8 W4 K n := (t.tree.below hb).touch tc (fun k p hf hg => (t.ft k p hf).2 hg) (fun k _ hk => (t.ky k hk).2)
  have flt : ∀ k p, foot (h + 1) n k p → k < W.heap.size := t.tree.inn.lt
  have hown : ∀ k p, own n1 k p → W.heap.size ≤ k ∧ k < W4.heap.size := by
    rw [← hn1]
    have l1 := lk4.lt
    have l2 := lr4.lt
    rintro k p (⟨h1, _⟩ | h1 | h1)
    · change k = b + 1 at h1; omega
    · exact absurd h1 (slf_nil _ _ _ _)
    · have := (slf_some.1 h1).1; omega
  have hlit4 : Lit W4 g [.pointer (some ⟨b + 1, 0, none⟩), .int .i64 m] := by rw [← hW4]; exact lit_put0 (t.lit.below hb) rfl
  have hinn : InN W4 (h + 2) n1 := by
    refine InN.mk ?_ ?_ ?_
    · rw [← hn1]
      obtain ⟨q0, q1, _, _⟩ := lr4.two
      refine ⟨q0, q1, lr4.fz, RowS.nil _ _, ⟨rfl, Nat.le_refl _, by show 1 ≤ maxLen; unfold maxLen; omega, nv_one _, .inr ⟨b, 0, rfl, lk4.lt, lk4.at', fun j hj => ?_⟩⟩, fun k p _ hf => slf_nil _ _ _ _ hf, fun k p hx hf => ?_, fun k p hf _ => slf_nil _ _ _ _ hf⟩
      · obtain rfl : j = 0 := by have : j < 1 * 1 := hj; omega
        exact ⟨by rw [lk4.at' 0 _ rfl]; rfl, lk4.fz _⟩
      · have h1 : k = b + 1 := hx.1
        have := (slf_some.1 hf).1
        omega
    · intro k p ho hf
      rw [e2] at hf
      have := flt k p (footL_one.1 hf)
      have := (hown k p ho).1
      omega
    · rw [e2]
      exact kids_one.2 t4.inn
  have hfoot : ∀ k p, foot (h + 2) n1 k p → foot (h + 1) n k p ∨ W.heap.size ≤ k := by
    rintro k p (hf | ⟨d, hd, hf⟩)
    · exact .inr (hown k p hf).1
    · rw [e2] at hd
      obtain rfl : d = n := List.mem_singleton.1 hd
      exact .inl hf
  have htorn : Torn h W4 n1 [] [] n 0 8 := ⟨hinn, e2, rfl, by rw [e2, e3]; rfl, by rw [e3]; exact Nat.zero_le _, fun d hd => absurd hd List.not_mem_nil, wfN_mono ⟨by show 2 ≤ n.es.length; omega, by show n.es.length ≤ 8; omega, t.tree.wf.2.2⟩ (Nat.le_refl _) (Nat.le_refl _)⟩
  refine ⟨htorn, fun W5 x hx hs => ?_⟩
  have hs' : SplitS h W4 W5 n1 [] [] n (n1.es.take 0) (n1.es.drop 0) 4 x := by rw [e3]; exact hs
  obtain ⟨n', r, hfl, hlen, hwf, hes⟩ := htorn.split (by omega) (by omega) (by omega) hx hs'
  have hf1 : flatN (h + 2) n' = flatN (h + 1) n := hfl.trans (hf0 n1 hn1)
  have hent : entN (h + 2) n' = entN (h + 1) n := by unfold entN; rw [hf1]
  have hk1 : ∀ k p, foot (h + 2) n1 k p → ¬ K k := fun k p hf hk => by
    rcases hfoot k p hf with h1 | h1
    · exact t.tree.dis k p h1 hk
    · have := t.tree.klt k hk; omega
  have hg1 : ∀ k p, foot (h + 2) n1 k p → (F k ∨ w.heap.size ≤ k) ∧ k ≠ g := fun k p hf => by
    rcases hfoot k p hf with h1 | h1
    · exact t.ft k p h1
    · exact ⟨.inr (by omega), by omega⟩
  have hes1 : n'.es.length = 1 := by rw [hes, e3]; rfl
  have tt : Tree (h + 2) 1 7 W5 K n' := ⟨r.inn, ⟨by show 1 ≤ n'.es.length; omega, by show n'.es.length ≤ 7; omega, fun _ => hlen, hwf⟩, by rw [hent]; exact t.tree.srt, fun y hy => by rw [hf1] at hy; exact (t4.key y hy).stay (r.tc.stay fun k p hk hf => hk1 k p hf hk), r.disK hk1 t4.klt, fun k hk => Nat.lt_of_lt_of_le (t4.klt k hk) r.tc.size⟩
  refine ⟨n', hes1, ⟨?_, tt, hent.trans t.ent, fun k p hf => ?_, t.ky, t.mine, t.flt, ?_⟩⟩
  · have hgn : n'.g = n1.g := r.g
    rw [hgn, e1]
    exact hlit4.touch r.tc (fun p hf => (hg1 g p hf).2 rfl)
  · rcases r.ft k p hf with h1 | h1
    · exact hg1 k p h1
    · unfold Fr at h1
      have := tc.size
      exact ⟨.inr (by omega), by omega⟩
  · have h1 : Touch F w W3 := t.touch.trans (Touch.of_below (F := F) hb) (fun _ _ h => h)
    have h2 : Touch F w W4 := h1.trans (tc.touch (G := fun k => k = g) (fun _ _ _ h => h)) (fun k _ h => by rw [h]; exact t.mine)
    exact h2.trans (r.tc.touch (G := fun k => F k ∨ w.heap.size ≤ k) (fun k p _ hf => (hg1 k p hf).1)) (fun k hk h => h.elim id (fun h => by omega))

end Go.Proofs.Ytfikaccgpjiedaa

