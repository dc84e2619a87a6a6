/-
  Nodes in memory: what lies where, which cells are whose, what stays.
-/
import Derived.Test.YtfikaccgpjiedaaJBBin
import Derived.Test.YtfikaccgpjiedaaJBBal
namespace Go.Proofs.Ytfikaccgpjiedaa
open Go.RowKit Go.Lib

/-- A node: its block; its two rows; its entries, its children. -/
structure Nd (κ : Type) where
  g : Nat
  ea : Option Addr
  ec : Nat
  ca : Option Addr
  cc : Nat
  es : List CE
  ks : List κ

/-- Nodes of h levels. -/
def Kid : Nat → Type
  | 0 => Empty
  | h + 1 => Nd (Kid h)

def kg : (h : Nat) → Kid h → Nat
  | 0, _ => 0
  | h + 1, n => Nd.g (κ := Kid h) n

/-- A node's own cells. -/
def own {κ : Type} (n : Nd κ) : Ft := fun k p => Hd n.g 2 k p ∨ SlF 2 n.ea n.ec k p ∨ SlF 1 n.ca n.cc k p

/-- All of a node's cells, and of those below it. -/
def foot : (h : Nat) → Kid h → Ft
  | 0, _ => fun _ _ => False
  | h + 1, n => fun k p => own (κ := Kid h) n k p ∨ ∃ c ∈ Nd.ks (κ := Kid h) n, foot h c k p
def footL (h : Nat) (ks : List (Kid h)) : Ft := fun k p => ∃ c ∈ ks, foot h c k p

theorem foot_succ (h : Nat) (n : Nd (Kid h)) : foot (h + 1) n = Or2 (own n) (footL h n.ks) := rfl
theorem footL_nil (h : Nat) (k p : Nat) : ¬ footL h [] k p := fun ⟨_, hc, _⟩ => absurd hc List.not_mem_nil
theorem footL_app {h : Nat} {A B : List (Kid h)} {k p : Nat} : footL h (A ++ B) k p ↔ footL h A k p ∨ footL h B k p := by
  simp only [footL, List.mem_append]
  constructor
  · rintro ⟨c, hc | hc, hf⟩
    · exact .inl ⟨c, hc, hf⟩
    · exact .inr ⟨c, hc, hf⟩
  · rintro (⟨c, hc, hf⟩ | ⟨c, hc, hf⟩)
    · exact ⟨c, .inl hc, hf⟩
    · exact ⟨c, .inr hc, hf⟩
theorem footL_cons {h : Nat} {c : Kid h} {B : List (Kid h)} {k p : Nat} : footL h (c :: B) k p ↔ foot h c k p ∨ footL h B k p := by
  simp only [footL, List.mem_cons]
  constructor
  · rintro ⟨d, rfl | hd, hf⟩
    · exact .inl hf
    · exact .inr ⟨d, hd, hf⟩
  · rintro (hf | ⟨d, hd, hf⟩)
    · exact ⟨c, .inl rfl, hf⟩
    · exact ⟨d, .inr hd, hf⟩
theorem footL_one {h : Nat} {c : Kid h} {k p : Nat} : footL h [c] k p ↔ foot h c k p := by
  rw [footL_cons]
  exact ⟨fun h => h.elim id (fun h => absurd h (footL_nil _ _ _)), .inl⟩

def nv (g : Nat) : Value := .pointer (some ⟨g, 0, none⟩)
theorem nv_one (gs : List Nat) : ∀ v ∈ gs.map nv, v.oneCell' = true := by
  intro v hv
  obtain ⟨g, _, rfl⟩ := List.mem_map.1 hv
  rfl

/-- A node's own block and rows, as they lie. -/
structure Self (W : World) (g : Nat) (ea : Option Addr) (ec : Nat) (ca : Option Addr) (cc : Nat) (es : List CE) (gs : List Nat) : Prop where
  g0 : W.cell? ⟨g, 0, none⟩ = some (.slice ea es.length ec)
  g1 : W.cell? ⟨g, 1, none⟩ = some (.slice ca gs.length cc)
  fz : ∀ j, W.frozen? ⟨g, j, none⟩ = false
  er : RowS 2 W ea es.length ec (flatC es)
  cr : RowS 1 W ca gs.length cc (gs.map nv)
  d1 : Dis (Hd g 2) (SlF 2 ea ec)
  d2 : Dis (Hd g 2) (SlF 1 ca cc)
  d3 : Dis (SlF 2 ea ec) (SlF 1 ca cc)

def SelfN (W : World) {κ : Type} (f : κ → Nat) (n : Nd κ) : Prop := Self W n.g n.ea n.ec n.ca n.cc n.es (n.ks.map f)

theorem Self.lt {W : World} {g : Nat} {ea : Option Addr} {ec : Nat} {ca : Option Addr} {cc : Nat} {es : List CE} {gs : List Nat} (h : Self W g ea ec ca cc es gs) : g < W.heap.size := World.block_lt_of_cell? _ _ h.g0

theorem Self.touch {F : Ft} {W W' : World} {g : Nat} {ea : Option Addr} {ec : Nat} {ca : Option Addr} {cc : Nat} {es : List CE} {gs : List Nat} (h : Self W g ea ec ca cc es gs) (ht : TouchC F W W')
    (h1 : Dis (Hd g 2) F) (h2 : Dis (SlF 2 ea ec) F) (h3 : Dis (SlF 1 ca cc) F) : Self W' g ea ec ca cc es gs := by
  have hl := h.lt
  refine ⟨?_, ?_, fun j => by rw [ht.fz g j hl]; exact h.fz j, h.er.touch ht h2, h.cr.touch ht h3, h.d1, h.d2, h.d3⟩
  · rw [ht.cell g 0 hl (h1 g 0 ⟨rfl, by omega⟩)]; exact h.g0
  · rw [ht.cell g 1 hl (h1 g 1 ⟨rfl, by omega⟩)]; exact h.g1

theorem own_lt {W : World} {κ : Type} {f : κ → Nat} {n : Nd κ} (h : SelfN W f n) {k p : Nat} (hk : own n k p) : k < W.heap.size := by
  rcases hk with ⟨rfl, _⟩ | hk | hk
  · exact h.lt
  · exact h.er.lt k p hk
  · exact h.cr.lt k p hk

/-- A node of h levels lies in memory, with all below it; no two of them share a cell. -/
def InN (W : World) : (h : Nat) → Kid h → Prop
  | 0, _ => False
  | h + 1, n => SelfN W (kg h) (κ := Kid h) n ∧ Dis (own (κ := Kid h) n) (footL h (Nd.ks (κ := Kid h) n)) ∧ (Nd.ks (κ := Kid h) n).Pairwise (fun a b => Dis (foot h a) (foot h b)) ∧ ∀ c ∈ Nd.ks (κ := Kid h) n, InN W h c

/-- Nodes side by side. -/
def KidsIn (W : World) (h : Nat) (ks : List (Kid h)) : Prop := ks.Pairwise (fun a b => Dis (foot h a) (foot h b)) ∧ ∀ c ∈ ks, InN W h c

theorem InN.mk {W : World} {h : Nat} {n : Nd (Kid h)} (h1 : SelfN W (kg h) n) (h2 : Dis (own n) (footL h n.ks)) (h3 : KidsIn W h n.ks) : InN W (h + 1) n := ⟨h1, h2, h3⟩
theorem InN.self {W : World} {h : Nat} {n : Nd (Kid h)} (hn : InN W (h + 1) n) : SelfN W (kg h) n := hn.1
theorem InN.dis {W : World} {h : Nat} {n : Nd (Kid h)} (hn : InN W (h + 1) n) : Dis (own n) (footL h n.ks) := hn.2.1
theorem InN.kids {W : World} {h : Nat} {n : Nd (Kid h)} (hn : InN W (h + 1) n) : KidsIn W h n.ks := hn.2.2

theorem InN.lt {W : World} : ∀ {h : Nat} {n : Kid h}, InN W h n → ∀ k p, foot h n k p → k < W.heap.size
  | 0, _, hn, _, _, _ => absurd hn id
  | h + 1, n, hn, k, p, hf => by
      rcases hf with hf | ⟨c, hc, hf⟩
      · exact own_lt hn.1 hf
      · exact InN.lt (hn.2.2.2 c hc) k p hf

theorem KidsIn.lt {W : World} {h : Nat} {ks : List (Kid h)} (hk : KidsIn W h ks) : ∀ k p, footL h ks k p → k < W.heap.size := fun k p ⟨c, hc, hf⟩ => (hk.2 c hc).lt k p hf

theorem InN.touch {F : Ft} {W W' : World} (ht : TouchC F W W') : ∀ {h : Nat} {n : Kid h}, InN W h n → Dis (foot h n) F → InN W' h n
  | 0, _, hn, _ => absurd hn id
  | h + 1, n, hn, hd => by
      refine ⟨Self.touch hn.1 ht (fun k p hk => hd k p (.inl (.inl hk))) (fun k p hk => hd k p (.inl (.inr (.inl hk)))) (fun k p hk => hd k p (.inl (.inr (.inr hk)))), hn.2.1, hn.2.2.1, fun c hc => ?_⟩
      exact InN.touch ht (hn.2.2.2 c hc) (fun k p hk => hd k p (.inr ⟨c, hc, hk⟩))

theorem KidsIn.touch {F : Ft} {W W' : World} {h : Nat} {ks : List (Kid h)} (hk : KidsIn W h ks) (ht : TouchC F W W') (hd : Dis (footL h ks) F) : KidsIn W' h ks :=
  ⟨hk.1, fun c hc => (hk.2 c hc).touch ht (fun k p hf => hd k p ⟨c, hc, hf⟩)⟩
theorem InN.below {W W' : World} {h : Nat} {n : Kid h} (hn : InN W h n) (hb : Below W.heap.size W W') : InN W' h n := hn.touch (F := fun _ _ => False) (TouchC.of_below hb) (fun _ _ _ h => h)
theorem KidsIn.below {W W' : World} {h : Nat} {ks : List (Kid h)} (hk : KidsIn W h ks) (hb : Below W.heap.size W W') : KidsIn W' h ks := hk.touch (F := fun _ _ => False) (TouchC.of_below hb) (fun _ _ _ h => h)

theorem kids_app {W : World} {h : Nat} {A B : List (Kid h)} : KidsIn W h (A ++ B) ↔ KidsIn W h A ∧ KidsIn W h B ∧ Dis (footL h A) (footL h B) := by
  simp only [KidsIn, List.pairwise_append, List.mem_append]
  constructor
  · rintro ⟨⟨h1, h2, h3⟩, h4⟩
    exact ⟨⟨h1, fun c hc => h4 c (.inl hc)⟩, ⟨h2, fun c hc => h4 c (.inr hc)⟩, fun k p ⟨a, ha, hf⟩ ⟨b, hb, hg⟩ => h3 a ha b hb k p hf hg⟩
  · rintro ⟨⟨h1, h2⟩, ⟨h3, h4⟩, h5⟩
    exact ⟨⟨h1, h3, fun a ha b hb k p hf hg => h5 k p ⟨a, ha, hf⟩ ⟨b, hb, hg⟩⟩, fun c hc => hc.elim (h2 c) (h4 c)⟩
theorem kids_one {W : World} {h : Nat} {c : Kid h} : KidsIn W h [c] ↔ InN W h c := by simp [KidsIn]
theorem kids_cons {W : World} {h : Nat} {c : Kid h} {B : List (Kid h)} : KidsIn W h (c :: B) ↔ InN W h c ∧ KidsIn W h B ∧ Dis (foot h c) (footL h B) := by
  rw [← List.singleton_append, kids_app, kids_one]
  refine ⟨fun ⟨a, b, c⟩ => ⟨a, b, fun k p hf => c k p (footL_one.2 hf)⟩, fun ⟨a, b, c⟩ => ⟨a, b, fun k p hf => c k p (footL_one.1 hf)⟩⟩
theorem kids_nil (W : World) (h : Nat) : KidsIn W h [] := ⟨List.Pairwise.nil, fun _ hc => absurd hc List.not_mem_nil⟩
theorem kids_two {W : World} {h : Nat} {a b : Kid h} : KidsIn W h [a, b] ↔ InN W h a ∧ InN W h b ∧ Dis (foot h a) (foot h b) := by
  rw [kids_cons, kids_one]
  exact ⟨fun ⟨x, y, z⟩ => ⟨x, y, fun k p hf hg => z k p hf (footL_one.2 hg)⟩, fun ⟨x, y, z⟩ => ⟨x, y, fun k p hf hg => z k p hf (footL_one.1 hg)⟩⟩

/-- Some of the children are others. -/
theorem KidsIn.swap {F : Ft} {W W' : World} {h : Nat} {A X Y B : List (Kid h)} (hk : KidsIn W h (A ++ X ++ B)) (ht : TouchC F W W') (hA : Dis (footL h A) F) (hB : Dis (footL h B) F) (hY : KidsIn W' h Y) (hf : Sub (footL h Y) (Or2 (footL h X) (Fr W.heap.size))) :
    KidsIn W' h (A ++ Y ++ B) ∧ Sub (footL h (A ++ Y ++ B)) (Or2 (footL h (A ++ X ++ B)) (Fr W.heap.size)) := by
  obtain ⟨h1, h2, h3⟩ := kids_app.1 hk
  obtain ⟨h4, h5, h6⟩ := kids_app.1 h1
  refine ⟨kids_app.2 ⟨kids_app.2 ⟨h4.touch ht hA, hY, fun k p ha hy => ?_⟩, h2.touch ht hB, fun k p hay hb => ?_⟩, fun k p hz => ?_⟩
  · rcases hf k p hy with hx | hx
    · exact h6 k p ha hx
    · have := h4.lt k p ha; unfold Fr at hx; omega
  · rcases footL_app.1 hay with ha | hy
    · exact h3 k p (footL_app.2 (.inl ha)) hb
    · rcases hf k p hy with hx | hx
      · exact h3 k p (footL_app.2 (.inr hx)) hb
      · have := h2.lt k p hb; unfold Fr at hx; omega
  · rcases footL_app.1 hz with hz | hz
    · rcases footL_app.1 hz with hz | hz
      · exact .inl (footL_app.2 (.inl (footL_app.2 (.inl hz))))
      · rcases hf k p hz with hx | hx
        · exact .inl (footL_app.2 (.inl (footL_app.2 (.inr hx))))
        · exact .inr hx
    · exact .inl (footL_app.2 (.inr hz))

/-- A node, and what it has become. -/
structure Res (h : Nat) (W W' : World) (n n' : Kid h) : Prop where
  g : kg h n' = kg h n
  inn : InN W' h n'
  ft : Sub (foot h n') (Or2 (foot h n) (Fr W.heap.size))
  tc : TouchC (foot h n) W W'

theorem Res.of_below {h : Nat} {W W' : World} {n : Kid h} (hn : InN W h n) (hb : Below W.heap.size W W') : Res h W W' n n := ⟨rfl, hn.below hb, fun _ _ h => .inl h, TouchC.of_below hb⟩
theorem Res.trans {h : Nat} {W W1 W2 : World} {n n1 n2 : Kid h} (a : Res h W W1 n n1) (b : Res h W1 W2 n1 n2) : Res h W W2 n n2 := by
  refine ⟨b.g.trans a.g, b.inn, fun k p hf => ?_, a.tc.trans b.tc (fun k p hk hf => ?_)⟩
  · rcases b.ft k p hf with h1 | h1
    · exact a.ft k p h1
    · exact .inr (Nat.le_trans a.tc.size h1)
  · rcases a.ft k p hf with h1 | h1
    · exact h1
    · unfold Fr at h1; omega
theorem Res.below {h : Nat} {W W1 W2 : World} {n n1 : Kid h} (a : Res h W W1 n n1) (hb : Below W1.heap.size W1 W2) : Res h W W2 n n1 := a.trans (Res.of_below a.inn hb)
theorem Res.from {h : Nat} {W W1 W2 : World} {n n1 : Kid h} (hn : InN W h n) (hb : Below W.heap.size W W1) (a : Res h W1 W2 n n1) : Res h W W2 n n1 := (Res.of_below hn hb).trans a

/-- A child is another one. -/
theorem Res.kid {h : Nat} {W W' : World} {n : Nd (Kid h)} (hn : InN W (h + 1) n) {A B : List (Kid h)} {c c' : Kid h} (hk : n.ks = A ++ c :: B) (r : Res h W W' c c') : Res (h + 1) W W' n { n with ks := A ++ c' :: B } := by
  have hks := hn.kids
  have hd := hn.dis
  have hs := hn.self
  rw [hk] at hks hd
  have e1 : ∀ x : Kid h, A ++ x :: B = A ++ [x] ++ B := fun x => by simp
  rw [e1] at hks hd
  obtain ⟨h1, h2, h3⟩ := kids_app.1 hks
  obtain ⟨h4, h5, h6⟩ := kids_app.1 h1
  have hfc : Sub (foot h c) (footL h (A ++ [c] ++ B)) := fun k p hf => footL_app.2 (.inl (footL_app.2 (.inr (footL_one.2 hf))))
  obtain ⟨hy1, hy2⟩ := hks.swap (Y := [c']) r.tc (fun k p ha hf => h6 k p ha (footL_one.2 hf)) (fun k p hb hf => h3 k p (footL_app.2 (.inr (footL_one.2 hf))) hb) (kids_one.2 r.inn) (fun k p hf => (r.ft k p (footL_one.1 hf)).elim (fun h => .inl (footL_one.2 h)) .inr)
  have hmap : (A ++ c' :: B).map (kg h) = n.ks.map (kg h) := by rw [hk]; simp [r.g]
  have hso : SelfN W' (kg h) { n with ks := A ++ c' :: B } := by
    unfold SelfN
    show Self W' n.g n.ea n.ec n.ca n.cc n.es ((A ++ c' :: B).map (kg h))
    rw [hmap]
    exact Self.touch hs r.tc (fun k p ho hf => hd k p (.inl ho) (hfc k p hf)) (fun k p ho hf => hd k p (.inr (.inl ho)) (hfc k p hf)) (fun k p ho hf => hd k p (.inr (.inr ho)) (hfc k p hf))
  refine ⟨rfl, InN.mk hso ?_ ?_, fun k p hf => ?_, r.tc.mono fun k p _ hf => .inr ?_⟩
  · intro k p ho hf
    rw [e1] at hf
    rcases hy2 k p hf with h7 | h7
    · exact hd k p ho h7
    · have := own_lt hs (show own n k p from ho); unfold Fr at h7; omega
  · show KidsIn W' h (A ++ c' :: B)
    rw [e1]
    exact hy1
  · rcases hf with ho | hf
    · exact .inl (.inl ho)
    · have hf' : footL h (A ++ [c'] ++ B) k p := by rw [← e1]; exact hf
      rcases hy2 k p hf' with h7 | h7
      · exact .inl (.inr (by show footL h n.ks k p; rw [hk, e1]; exact h7))
      · exact .inr h7
  · show footL h n.ks k p
    rw [hk, e1]
    exact hfc k p hf

/-! ### Shape, and what a node holds -/

def wfN : (h : Nat) → Nat → Nat → Kid h → Prop
  | 0, _, _, _ => False
  | h + 1, lo, hi, n => lo ≤ (Nd.es (κ := Kid h) n).length ∧ (Nd.es (κ := Kid h) n).length ≤ hi ∧ (h ≠ 0 → (Nd.ks (κ := Kid h) n).length = (Nd.es (κ := Kid h) n).length + 1) ∧ ∀ c ∈ Nd.ks (κ := Kid h) n, wfN h 3 7 c

def flatN : (h : Nat) → Kid h → List CE
  | 0, _ => []
  | h + 1, n => if h = 0 then Nd.es (κ := Kid h) n else weave ((Nd.ks (κ := Kid h) n).map (flatN h)) (Nd.es (κ := Kid h) n)

theorem flatN_leaf (n : Nd (Kid 0)) : flatN 1 n = n.es := rfl
theorem flatN_node (h : Nat) (n : Nd (Kid (h + 1))) : flatN (h + 2) n = weave (n.ks.map (flatN (h + 1))) n.es := rfl
theorem ks_leaf (n : Nd (Kid 0)) : n.ks = [] := by
  cases h : n.ks with
  | nil => rfl
  | cons c _ => exact Empty.elim c

theorem leaf_iff {h lo hi : Nat} {n : Nd (Kid h)} (hw : wfN (h + 1) lo hi n) : n.ks.length = 0 ↔ h = 0 := by
  constructor
  · intro h0
    apply Classical.byContradiction
    intro hh
    have : n.ks.length = n.es.length + 1 := hw.2.2.1 hh
    omega
  · rintro rfl
    rw [ks_leaf]
    rfl

theorem wfN_mono {h lo hi lo' hi' : Nat} {n : Kid h} (hw : wfN h lo hi n) (h1 : lo' ≤ lo) (h2 : hi ≤ hi') : wfN h lo' hi' n := by
  cases h with
  | zero => exact hw
  | succ h => exact ⟨Nat.le_trans h1 hw.1, Nat.le_trans hw.2.1 h2, hw.2.2⟩

/-! ### Small pieces -/

theorem leaf_is (g k cc : Nat) (ca : Option Addr) (z : Bool) (hz : decide (k = 0) = z) (w : World) (h : w.cell? ⟨g, 1, none⟩ = some (.slice ca k cc)) :
    Calls Try.prog 40 #[.pointer (some ⟨g, 0, none⟩)] w fun e w' => e = .returned (.bool z) ∧ Below w.heap.size w w' := by
  have hkz : ((k : Int) == 0) = z := by rw [← hz, Bool.eq_iff_iff, beq_iff_eq, decide_eq_true_iff]; omega
  clear hz
  go_enter Try.func40, Try.ntmps40
  go_wp2_with fail
  go_ret
  exact ⟨rfl, Below.refl _ _⟩

end Go.Proofs.Ytfikaccgpjiedaa

/-
  A node whose own rows, and children, have become others; a node parted in two: what lies where.
-/
namespace Go.Proofs.Ytfikaccgpjiedaa
open Go.RowKit Go.Lib

/-- A node's rows and children are others; what is new lies from here on. -/
theorem up_res {h : Nat} {n : Nd (Kid h)} {w W' : World} (hn : InN w (h + 1) n) (ea' : Option Addr) (ec' : Nat) (ca' : Option Addr) (cc' : Nat) (es' : List CE) (ks' : List (Kid h)) (s1 s2 : Nat) (hs1 : w.heap.size ≤ s1) (hs2 : s1 ≤ s2)
    (hK : KidsIn W' h ks') (hKf : ∀ k p, footL h ks' k p → footL h n.ks k p ∨ (w.heap.size ≤ k ∧ k < s1))
    (hE : ∀ k p, SlF 2 ea' ec' k p → SlF 2 n.ea n.ec k p ∨ (s1 ≤ k ∧ k < s2)) (hC : ∀ k p, SlF 1 ca' cc' k p → SlF 1 n.ca n.cc k p ∨ s2 ≤ k) (tc : TouchC (own n) w W')
    (M' N' : Nat) (hM' : es'.length = M') (hN' : ks'.length = N') (g0 : W'.cell? ⟨n.g, 0, none⟩ = some (.slice ea' M' ec')) (g1 : W'.cell? ⟨n.g, 1, none⟩ = some (.slice ca' N' cc')) (er : RowS 2 W' ea' M' ec' (flatC es')) (cr : RowS 1 W' ca' N' cc' ((ks'.map (kg h)).map nv)) :
    Res (h + 1) w W' n (⟨n.g, ea', ec', ca', cc', es', ks'⟩ : Nd (Kid h)) := by
  subst hM' hN'
  have hs := hn.self
  have hd := hn.dis
  have hgl := hs.lt
  have hlt := fun k p (ho : own n k p) => own_lt hs ho
  have hkl : ∀ k p, footL h n.ks k p → k < w.heap.size := hn.kids.lt
  have hself : SelfN W' (kg h) (⟨n.g, ea', ec', ca', cc', es', ks'⟩ : Nd (Kid h)) := by
    refine ⟨g0, ?_, fun j => by rw [tc.fz n.g j hgl]; exact hs.fz j, er, ?_, fun k p hg he => ?_, fun k p hg he => ?_, fun k p he hc => ?_⟩
    · show W'.cell? ⟨n.g, 1, none⟩ = some (.slice ca' (ks'.map (kg h)).length cc')
      rw [List.length_map]; exact g1
    · show RowS 1 W' ca' (ks'.map (kg h)).length cc' ((ks'.map (kg h)).map nv)
      rw [List.length_map]; exact cr
    · rcases hE k p he with h1 | h1
      · exact hs.d1 k p hg h1
      · have := hg.1; change k = n.g at this; omega
    · rcases hC k p he with h1 | h1
      · exact hs.d2 k p hg h1
      · have := hg.1; change k = n.g at this; omega
    · rcases hE k p he with h1 | h1 <;> rcases hC k p hc with h2 | h2
      · exact hs.d3 k p h1 h2
      · have := hlt k p (.inr (.inl h1)); omega
      · have := hlt k p (.inr (.inr h2)); omega
      · omega
  have hown : ∀ k p, own (⟨n.g, ea', ec', ca', cc', es', ks'⟩ : Nd (Kid h)) k p → own n k p ∨ s1 ≤ k := by
    rintro k p (h1 | h1 | h1)
    · exact .inl (.inl h1)
    · rcases hE k p h1 with h2 | h2
      · exact .inl (.inr (.inl h2))
      · exact .inr h2.1
    · rcases hC k p h1 with h2 | h2
      · exact .inl (.inr (.inr h2))
      · exact .inr (Nat.le_trans hs2 h2)
  refine ⟨rfl, InN.mk hself (fun k p ho hf => ?_) hK, fun k p hf => ?_, tc.mono fun k p _ ho => .inl ho⟩
  · rcases hown k p ho with h1 | h1 <;> rcases hKf k p hf with h2 | h2
    · exact hd k p h1 h2
    · have := hlt k p h1; omega
    · have := hkl k p h2; omega
    · omega
  · rcases hf with ho | hf
    · rcases hown k p ho with h1 | h1
      · exact .inl (.inl h1)
      · exact .inr (Nat.le_trans hs1 h1)
    · rcases hKf k p hf with h2 | h2
      · exact .inl (.inr h2)
      · exact .inr h2.1

theorem KidsIn.swap12 {F : Ft} {W W' : World} {h : Nat} {A B : List (Kid h)} {c l r : Kid h} (hk : KidsIn W h (A ++ c :: B)) (ht : TouchC F W W') (hA : Dis (footL h (A ++ c :: B)) F) (hY : KidsIn W' h [l, r]) (hf : ∀ k p, footL h [l, r] k p → foot h c k p ∨ W.heap.size ≤ k) :
    KidsIn W' h (A ++ l :: r :: B) ∧ ∀ k p, footL h (A ++ l :: r :: B) k p → footL h (A ++ c :: B) k p ∨ (W.heap.size ≤ k ∧ footL h [l, r] k p) := by
  have e1 : A ++ c :: B = A ++ [c] ++ B := by simp
  have e2 : A ++ l :: r :: B = A ++ [l, r] ++ B := by simp
  rw [e1] at hk hA ⊢
  rw [e2]
  obtain ⟨h1, h2⟩ := hk.swap (Y := [l, r]) ht (fun k p hx => hA k p (footL_app.2 (.inl (footL_app.2 (.inl hx))))) (fun k p hx => hA k p (footL_app.2 (.inr hx))) hY (fun k p hx => (hf k p hx).elim (fun h => .inl (footL_one.2 h)) .inr)
  refine ⟨h1, fun k p hx => ?_⟩
  rcases footL_app.1 hx with hy | hy
  · rcases footL_app.1 hy with hz | hz
    · exact .inl (footL_app.2 (.inl (footL_app.2 (.inl hz))))
    · rcases hf k p hz with h3 | h3
      · exact .inl (footL_app.2 (.inl (footL_app.2 (.inr (footL_one.2 h3)))))
      · exact .inr ⟨h3, hz⟩
  · exact .inl (footL_app.2 (.inr hy))

theorem KidsIn.swap21 {F : Ft} {W W' : World} {h : Nat} {A B : List (Kid h)} {l r j : Kid h} (hk : KidsIn W h (A ++ l :: r :: B)) (ht : TouchC F W W') (hA : Dis (footL h (A ++ l :: r :: B)) F) (hY : InN W' h j) (hf : ∀ k p, foot h j k p → footL h [l, r] k p ∨ W.heap.size ≤ k) :
    KidsIn W' h (A ++ j :: B) ∧ ∀ k p, footL h (A ++ j :: B) k p → footL h (A ++ l :: r :: B) k p ∨ (W.heap.size ≤ k ∧ foot h j k p) := by
  have e1 : A ++ j :: B = A ++ [j] ++ B := by simp
  have e2 : A ++ l :: r :: B = A ++ [l, r] ++ B := by simp
  rw [e2] at hk hA ⊢
  rw [e1]
  obtain ⟨h1, h2⟩ := hk.swap (Y := [j]) ht (fun k p hx => hA k p (footL_app.2 (.inl (footL_app.2 (.inl hx))))) (fun k p hx => hA k p (footL_app.2 (.inr hx))) (kids_one.2 hY) (fun k p hx => hf k p (footL_one.1 hx))
  refine ⟨h1, fun k p hx => ?_⟩
  rcases footL_app.1 hx with hy | hy
  · rcases footL_app.1 hy with hz | hz
    · exact .inl (footL_app.2 (.inl (footL_app.2 (.inl hz))))
    · rcases hf k p (footL_one.1 hz) with h3 | h3
      · exact .inl (footL_app.2 (.inl (footL_app.2 (.inr h3))))
      · exact .inr ⟨h3, footL_one.1 hz⟩
  · exact .inl (footL_app.2 (.inr hy))

theorem slf_le {s c c' k p : Nat} {a : Option Addr} (h : SlF s a c k p) (hc : c ≤ c') : SlF s a c' k p := by
  obtain ⟨o, e, h1, h2⟩ := h
  exact ⟨o, e, h1, Nat.lt_of_lt_of_le h2 (by have := Nat.mul_le_mul_right s hc; omega)⟩
theorem slf_tail {s b o c i k p : Nat} (h : SlF s (some ⟨b, o + i * s, none⟩) (c - i) k p) (hi : i ≤ c) : SlF s (some ⟨b, o, none⟩) c k p := by
  obtain ⟨rfl, h1, h2⟩ := slf_some.1 h
  have : i * s + (c - i) * s = c * s := by rw [← Nat.add_mul]; congr 1; omega
  exact slf_some.2 ⟨rfl, by omega, by omega⟩
theorem slf_apart {s b o c i j k p : Nat} (h : SlF s (some ⟨b, o, none⟩) i k p) (h' : SlF s (some ⟨b, o + j * s, none⟩) c k p) (hij : i ≤ j) : False := by
  obtain ⟨_, _, h2⟩ := slf_some.1 h
  obtain ⟨_, h3, _⟩ := slf_some.1 h'
  have := Nat.mul_le_mul_right s hij
  omega

/-- A node parted: two nodes, of the parts of its rows. -/
theorem part_is {h : Nat} {c : Nd (Kid h)} {W : World} (hc : InN W (h + 1) c) (g1 g2 m : Nat) (eb eo : Nat) (hea : c.ea = some ⟨eb, eo, none⟩) (hm : m + 1 < c.es.length) (lca rca : Option Addr) (lcc rcc : Nat) (lks rks : List (Kid h))
    (hl : Lit W g1 [.slice (some ⟨eb, eo, none⟩) m m, .slice lca lks.length lcc]) (hr : Lit W g2 [.slice (some ⟨eb, eo + (m + 1) * 2, none⟩) (c.es.length - (m + 1)) (c.ec - (m + 1)), .slice rca rks.length rcc])
    (hg : g1 ≠ g2) (hf1 : ∀ p, ¬ foot (h + 1) c g1 p) (hf2 : ∀ p, ¬ foot (h + 1) c g2 p) (hks : c.ks = lks ++ rks)
    (lcr : RowS 1 W lca lks.length lcc ((lks.map (kg h)).map nv)) (rcr : RowS 1 W rca rks.length rcc ((rks.map (kg h)).map nv)) (lf : Sub (SlF 1 lca lcc) (SlF 1 c.ca c.cc)) (rf : Sub (SlF 1 rca rcc) (SlF 1 c.ca c.cc)) (lr : Dis (SlF 1 lca lcc) (SlF 1 rca rcc)) :
    KidsIn W (h + 1) [(⟨g1, some ⟨eb, eo, none⟩, m, lca, lcc, c.es.take m, lks⟩ : Nd (Kid h)), (⟨g2, some ⟨eb, eo + (m + 1) * 2, none⟩, c.ec - (m + 1), rca, rcc, c.es.drop (m + 1), rks⟩ : Nd (Kid h))] ∧
      ∀ k p, footL (h + 1) [(⟨g1, some ⟨eb, eo, none⟩, m, lca, lcc, c.es.take m, lks⟩ : Nd (Kid h)), (⟨g2, some ⟨eb, eo + (m + 1) * 2, none⟩, c.ec - (m + 1), rca, rcc, c.es.drop (m + 1), rks⟩ : Nd (Kid h))] k p → foot (h + 1) c k p ∨ k = g1 ∨ k = g2 := by
  have hs := hc.self
  have hd := hc.dis
  have hkk := hc.kids
  rw [hks] at hkk hd
  obtain ⟨hk1, hk2, hk3⟩ := kids_app.1 hkk
  have hnc := hs.er.nc
  have her := hs.er
  have hd3 := hs.d3
  rw [hea] at her hd3
  have hd' : Dis (own c) (footL h (lks ++ rks)) := hd
  have oE : ∀ k p, SlF 2 (some ⟨eb, eo, none⟩) c.ec k p → own c k p := fun k p hx => .inr (.inl (by rw [hea]; exact hx))
  have oC : ∀ k p, SlF 1 c.ca c.cc k p → own c k p := fun k p hx => .inr (.inr hx)
  have fK : ∀ k p, footL h (lks ++ rks) k p → foot (h + 1) c k p := fun k p hx => .inr (by rw [← hks] at hx; exact hx)
  have fO : ∀ k p, own c k p → foot (h + 1) c k p := fun k p hx => .inl hx
  have lE : ∀ k p, SlF 2 (some ⟨eb, eo, none⟩) m k p → SlF 2 (some ⟨eb, eo, none⟩) c.ec k p := fun k p hx => slf_le hx (by omega)
  have rE : ∀ k p, SlF 2 (some ⟨eb, eo + (m + 1) * 2, none⟩) (c.ec - (m + 1)) k p → SlF 2 (some ⟨eb, eo, none⟩) c.ec k p := fun k p hx => slf_tail hx (by omega)
  have hrow1 : RowS 2 W (some ⟨eb, eo, none⟩) (c.es.take m).length m (flatC (c.es.take m)) := by
    have := her.cut (i := m) (k := m) (by omega) (Nat.le_refl _) (by omega)
    rw [flatC_take] at this
    rw [List.length_take, show min m c.es.length = m by omega]
    exact this
  have hrow2 : RowS 2 W (some ⟨eb, eo + (m + 1) * 2, none⟩) (c.es.drop (m + 1)).length (c.ec - (m + 1)) (flatC (c.es.drop (m + 1))) := by
    have := her.tail (i := m + 1) (by omega)
    rw [flatC_drop] at this
    rw [List.length_drop]
    exact this
  obtain ⟨l0, l1, _, _⟩ := hl.two
  obtain ⟨r0, r1, _, _⟩ := hr.two
  have hdg1 : ∀ k p, Hd g1 2 k p → ¬ foot (h + 1) c k p := by rintro k p ⟨rfl, _⟩; exact hf1 p
  have hdg2 : ∀ k p, Hd g2 2 k p → ¬ foot (h + 1) c k p := by rintro k p ⟨rfl, _⟩; exact hf2 p
  have sl : SelfN W (kg h) (⟨g1, some ⟨eb, eo, none⟩, m, lca, lcc, c.es.take m, lks⟩ : Nd (Kid h)) := by
    refine ⟨?_, ?_, hl.fz, hrow1, ?_, fun k p hx hy => hdg1 k p hx (fO _ _ (oE _ _ (lE _ _ hy))), fun k p hx hy => hdg1 k p hx (fO _ _ (oC _ _ (lf _ _ hy))), fun k p hx hy => hd3 k p (lE _ _ hx) (lf _ _ hy)⟩
    · show W.cell? ⟨g1, 0, none⟩ = some (.slice (some ⟨eb, eo, none⟩) (c.es.take m).length m)
      rw [List.length_take, show min m c.es.length = m by omega]; exact l0
    · show W.cell? ⟨g1, 1, none⟩ = some (.slice lca (lks.map (kg h)).length lcc)
      rw [List.length_map]; exact l1
    · show RowS 1 W lca (lks.map (kg h)).length lcc _
      rw [List.length_map]; exact lcr
  have sr : SelfN W (kg h) (⟨g2, some ⟨eb, eo + (m + 1) * 2, none⟩, c.ec - (m + 1), rca, rcc, c.es.drop (m + 1), rks⟩ : Nd (Kid h)) := by
    refine ⟨?_, ?_, hr.fz, hrow2, ?_, fun k p hx hy => hdg2 k p hx (fO _ _ (oE _ _ (rE _ _ hy))), fun k p hx hy => hdg2 k p hx (fO _ _ (oC _ _ (rf _ _ hy))), fun k p hx hy => hd3 k p (rE _ _ hx) (rf _ _ hy)⟩
    · show W.cell? ⟨g2, 0, none⟩ = some (.slice (some ⟨eb, eo + (m + 1) * 2, none⟩) (c.es.drop (m + 1)).length (c.ec - (m + 1)))
      rw [List.length_drop]; exact r0
    · show W.cell? ⟨g2, 1, none⟩ = some (.slice rca (rks.map (kg h)).length rcc)
      rw [List.length_map]; exact r1
    · show RowS 1 W rca (rks.map (kg h)).length rcc _
      rw [List.length_map]; exact rcr
  have ol : ∀ k p, own (⟨g1, some ⟨eb, eo, none⟩, m, lca, lcc, c.es.take m, lks⟩ : Nd (Kid h)) k p → (k = g1 ∧ p < 2) ∨ SlF 2 (some ⟨eb, eo, none⟩) m k p ∨ SlF 1 lca lcc k p := fun k p hx => hx
  have or' : ∀ k p, own (⟨g2, some ⟨eb, eo + (m + 1) * 2, none⟩, c.ec - (m + 1), rca, rcc, c.es.drop (m + 1), rks⟩ : Nd (Kid h)) k p → (k = g2 ∧ p < 2) ∨ SlF 2 (some ⟨eb, eo + (m + 1) * 2, none⟩) (c.ec - (m + 1)) k p ∨ SlF 1 rca rcc k p := fun k p hx => hx
  have olc : ∀ k p, own (⟨g1, some ⟨eb, eo, none⟩, m, lca, lcc, c.es.take m, lks⟩ : Nd (Kid h)) k p → k = g1 ∨ own c k p := fun k p hx => by
    rcases ol k p hx with h1 | h1 | h1
    · exact .inl h1.1
    · exact .inr (oE _ _ (lE _ _ h1))
    · exact .inr (oC _ _ (lf _ _ h1))
  have orc : ∀ k p, own (⟨g2, some ⟨eb, eo + (m + 1) * 2, none⟩, c.ec - (m + 1), rca, rcc, c.es.drop (m + 1), rks⟩ : Nd (Kid h)) k p → k = g2 ∨ own c k p := fun k p hx => by
    rcases or' k p hx with h1 | h1 | h1
    · exact .inl h1.1
    · exact .inr (oE _ _ (rE _ _ h1))
    · exact .inr (oC _ _ (rf _ _ h1))
  have nl : InN W (h + 1) (⟨g1, some ⟨eb, eo, none⟩, m, lca, lcc, c.es.take m, lks⟩ : Nd (Kid h)) := InN.mk sl (fun k p hx hy => by
    have hy' : footL h (lks ++ rks) k p := footL_app.2 (.inl hy)
    rcases olc k p hx with rfl | h1
    · exact hf1 p (fK _ _ hy')
    · exact hd' k p h1 hy') hk1
  have nr : InN W (h + 1) (⟨g2, some ⟨eb, eo + (m + 1) * 2, none⟩, c.ec - (m + 1), rca, rcc, c.es.drop (m + 1), rks⟩ : Nd (Kid h)) := InN.mk sr (fun k p hx hy => by
    have hy' : footL h (lks ++ rks) k p := footL_app.2 (.inr hy)
    rcases orc k p hx with rfl | h1
    · exact hf2 p (fK _ _ hy')
    · exact hd' k p h1 hy') hk2
  refine ⟨kids_two.2 ⟨nl, nr, fun k p hx hy => ?_⟩, fun k p hx => ?_⟩
  · rcases hx with hx | hx <;> rcases hy with hy | hy
    · rcases ol k p hx with h1 | h1 | h1 <;> rcases or' k p hy with h2 | h2 | h2
      · exact hg (h1.1.symm.trans h2.1)
      · exact hf1 p (by rw [← h1.1]; exact fO _ _ (oE _ _ (rE _ _ h2)))
      · exact hf1 p (by rw [← h1.1]; exact fO _ _ (oC _ _ (rf _ _ h2)))
      · exact hf2 p (by rw [← h2.1]; exact fO _ _ (oE _ _ (lE _ _ h1)))
      · exact slf_apart h1 h2 (by omega)
      · exact hd3 k p (lE _ _ h1) (rf _ _ h2)
      · exact hf2 p (by rw [← h2.1]; exact fO _ _ (oC _ _ (lf _ _ h1)))
      · exact hd3 k p (rE _ _ h2) (lf _ _ h1)
      · exact lr k p h1 h2
    · have hy' : footL h (lks ++ rks) k p := footL_app.2 (.inr hy)
      rcases olc k p hx with rfl | h1
      · exact hf1 p (fK _ _ hy')
      · exact hd' k p h1 hy'
    · have hx' : footL h (lks ++ rks) k p := footL_app.2 (.inl hx)
      rcases orc k p hy with rfl | h1
      · exact hf2 p (fK _ _ hx')
      · exact hd' k p h1 hx'
    · exact hk3 k p hx hy
  · rcases footL_cons.1 hx with hx | hx
    · rcases hx with hx | hx
      · rcases olc k p hx with h1 | h1
        · exact .inr (.inl h1)
        · exact .inl (fO _ _ h1)
      · exact .inl (fK _ _ (footL_app.2 (.inl hx)))
    · rcases footL_one.1 hx with hx | hx
      · rcases orc k p hx with h1 | h1
        · exact .inr (.inr h1)
        · exact .inl (fO _ _ h1)
      · exact .inl (fK _ _ (footL_app.2 (.inr hx)))

end Go.Proofs.Ytfikaccgpjiedaa

