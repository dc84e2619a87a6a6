/-
  All nodes of a root; two pointers into blocks without marks; formed: walked.
-/
import Derived.Test.YtfikaccgpjiedaaJBNods
import Derived.Test.YtfikaccgpjiedaaJRegJ
import Derived.Test.YtfikaccgpjiedaaJJ28
import Derived.Test.YtfikaccgpjiedaaJJ29
namespace Go.Proofs.Ytfikaccgpjiedaa
open Go.RowKit Go.Lib

/-! ### Pointers -/

theorem cells_of {W : World} {g o : Nat} {v : Value} (h : W.cell? ⟨g, o, none⟩ = some v) : ∃ cs t fr, W.heap[g]? = some (.cells cs t fr) := by
  unfold World.cell? at h
  dsimp only at h
  split at h
  · rename_i c t fr hb
    exact ⟨c, t, fr, hb⟩
  · cases h

theorem sameAddr_other {P : Program} {W : World} {a b : Nat} {u v : Value} (hne : a ≠ b) (ha : W.cell? ⟨a, 0, none⟩ = some u) (hb : W.cell? ⟨b, 0, none⟩ = some v) (fa : ∀ j, W.frozen? ⟨a, j, none⟩ = false) (fb : ∀ j, W.frozen? ⟨b, j, none⟩ = false) :
    (sameAddr ⟨a, 0, none⟩ ⟨b, 0, none⟩).run P W = .ok false W := by
  obtain ⟨cs, t, fr, h1⟩ := cells_of ha
  obtain ⟨cs', t', fr', h2⟩ := cells_of hb
  simp [sameAddr, hne, noView, viewAt, World.shape?, h1, h2, mayBeOne, stringish, fa, fb]

theorem eql_nodes {W : World} {a b : Nat} {u v : Value} {z : Bool} (hz : decide (a = b) = z) (ha : W.cell? ⟨a, 0, none⟩ = some u) (hb : W.cell? ⟨b, 0, none⟩ = some v) (fa : ∀ j, W.frozen? ⟨a, j, none⟩ = false) (fb : ∀ j, W.frozen? ⟨b, j, none⟩ = false) :
    (binOp .eql 51 (.pointer (some ⟨a, 0, none⟩)) (.pointer (some ⟨b, 0, none⟩))).run Try.prog W = .ok (.bool z) W := by
  have hp : Try.prog.underlying 51 = some (.pointer 56) := by kernel_rfl
  obtain ⟨j, hte, hsz⟩ : ∃ j, Try.prog.info? 56 = some j ∧ j.size ≠ 0 := by
    cases hj : Try.prog.info? 56 with
    | none =>
      have : (Try.prog.info? 56).isSome = true := by kernel_rfl
      rw [hj] at this
      cases this
    | some j =>
      refine ⟨j, rfl, ?_⟩
      have : ((Try.prog.info? 56).map TypeInfo.size).getD 0 = 2 := by kernel_rfl
      rw [hj] at this
      simp at this
      omega
  have h : ∀ d : Nat, (Op.equalIn (d + 1) 51 (.pointer (some ⟨a, 0, none⟩)) (.pointer (some ⟨b, 0, none⟩))).run Try.prog W = .ok z W := fun d => by
    by_cases hab : a = b
    · subst hab
      have : z = true := by rw [← hz]; simp
      subst this
      have hs : (sameAddr (⟨a, 0, none⟩ : Addr) ⟨a, 0, none⟩).run Try.prog W = .ok true W := by simp [sameAddr]
      simp [Op.equalIn, run_underlying hp, sizeOf, typeInfo, hte, hsz, hs]
    · have : z = false := by rw [← hz]; simp [hab]
      subst this
      simp [Op.equalIn, run_underlying hp, sizeOf, typeInfo, hte, hsz, sameAddr_other hab ha hb fa fb]
  simp only [binOp]
  simp [Op.equal, Op.maxDepth, h 9999]

/-! ### All nodes -/

theorem allN_good : ∀ {h lo : Nat} {n : Kid h} {d : Int}, wfN h lo 7 n → lo ≤ 3 → ∀ x ∈ allN h n d, lo ≤ x.m ∧ x.m ≤ 7 ∧ (x.k = 0 ↔ x.d = d + h - 1) ∧ (x.k ≠ 0 → x.k = x.m + 1)
  | h + 1, lo, n, d, hw, hlo, x, hx => by
      rcases List.mem_cons.1 hx with rfl | hx
      · refine ⟨hw.1, hw.2.1, ?_, ?_⟩
        · show (Nd.ks (κ := Kid h) n).length = 0 ↔ _
          cases h with
          | zero =>
            have h1 : (Nd.ks (κ := Kid 0) n).length = 0 := by rw [ks_leaf (n : Nd (Kid 0))]; rfl
            constructor
            · intro _
              show d = d + ((0 + 1 : Nat) : Int) - 1
              omega
            · intro _; exact h1
          | succ h =>
            have h1 : (Nd.ks (κ := Kid (h + 1)) n).length = (Nd.es (κ := Kid (h + 1)) n).length + 1 := hw.2.2.1 (by omega)
            constructor
            · intro h2; omega
            · intro h2
              change d = d + ((h + 1 + 1 : Nat) : Int) - 1 at h2
              omega
        · intro hk
          change (Nd.ks (κ := Kid h) n).length ≠ 0 at hk
          show (Nd.ks (κ := Kid h) n).length = (Nd.es (κ := Kid h) n).length + 1
          cases h with
          | zero =>
            have h1 : (Nd.ks (κ := Kid 0) n).length = 0 := by rw [ks_leaf (n : Nd (Kid 0))]; rfl
            exact absurd h1 hk
          | succ h => exact hw.2.2.1 (by omega)
      · obtain ⟨c, hc, hx⟩ := List.mem_flatMap.1 hx
        obtain ⟨h1, h2, h3, h4⟩ := allN_good (hw.2.2.2 c hc) (by omega) x hx
        exact ⟨by omega, h2, by rw [h3]; constructor <;> intro h5 <;> omega, h4⟩

/-- What a node of a tree of height H is, its root being rg. -/
def GoodN (H rg : Nat) (x : DN) : Prop := 1 ≤ x.m ∧ x.m ≤ 7 ∧ (x.g ≠ rg → 3 ≤ x.m) ∧ (x.k = 0 ↔ x.d = H) ∧ (x.k ≠ 0 → x.k = x.m + 1)

theorem nodes_nil_is {G : DN → Prop} {Ok : List DN → Prop} {l n0 : Nat} {A : Nat → Prop} {J Jx : (Nat → Prop) → List DN → World → Prop} {p : List DN} {Bn Bd : Nat} {W : World} (hp : Party Try.prog encN (TN G) Ok l n0 J Jx) (hJ : J A p W) (hBn : W.cell? ⟨Bn, 0, none⟩ = some (.pointer none)) :
    CallsIn .wide 1 Try.prog 60 #[.func (.yield l) #[] #[], .pointer (some ⟨Bn, 0, none⟩), .pointer (some ⟨Bd, 0, none⟩)] W fun e W' => (∃ v, e = .returned v) ∧ ∃ A' : Nat → Prop, (∀ k, A k → A' k) ∧ J A' p W' := by
  have hb := Below.allocs W (.cells #[.func (.yield l) #[] #[]] 88)
  have hj := hp.j.below hJ hb
  have HE : Hid (∃ A' : Nat → Prop, (∀ k, A k → A' k) ∧ J A' p (W.alloc (.cells #[.func (.yield l) #[] #[]] 88))) := Lib.hid ⟨_, fun k hk => .inl hk, hj⟩
  have blt := World.block_lt_of_cell? _ _ hBn
  clear hb hj hJ hp
  refine callsIn_of_wp_marks Try.func60 rfl trivial ?_ rfl
  simp only [Try.ntmps60, List.size_toArray, List.length_cons, List.length_nil, Nat.reduceAdd, Nat.reduceSub, Array.replicate_succ, Array.replicate_zero, List.push_toArray, List.append_toArray, List.nil_append, List.cons_append]
  refine wpIn_wide.2 ?_
  go_wp2_with fail
  exact ⟨.tuple #[], by simp [results, Try.results60, go_sem], ⟨_, rfl⟩, HE.out⟩

/-- All nodes of a root, its height, and what is known of the root. -/
theorem root_nodes {W0 : World} {g : Nat} {r : Value} {L : List Ent} {F : Nat → Prop} (hr : RootIs W0 g r L F) (hL : L.length ≤ 2000) :
    ∃ (S : List DN) (H : Nat), H ≤ 100 ∧ (∀ m, Lit W0 g [r, .int .i64 m] → Calls Try.prog 15 #[nodeV g] W0 fun e w' => e = .returned (.int .i64 (H : Int)) ∧ Below W0.heap.size W0 w') ∧
      (∀ x ∈ S, ∃ rg, r = .pointer (some ⟨rg, 0, none⟩) ∧ F rg ∧ (∃ v, W0.cell? ⟨rg, 0, none⟩ = some v) ∧ (∀ j, W0.frozen? ⟨rg, j, none⟩ = false) ∧ GoodN H rg x) ∧
      ∀ (G : DN → Prop) (Ok : List DN → Prop) (l n0 : Nat) (A : Nat → Prop) (J Jx : (Nat → Prop) → List DN → World → Prop) (p : List DN) (Bn Bd : Nat) (W : World), Stay F W0 W → Party Try.prog encN (TN G) Ok l n0 J Jx → (∀ x ∈ S, G x) → J A p W → n0 ≤ W.heap.size →
      (∀ k, F k → A k) → A Bn → A Bd → W.cell? ⟨Bn, 0, none⟩ = some r → W.cell? ⟨Bd, 0, none⟩ = some (.int .i64 1) → (∀ q, q <+: S → Ok (p ++ q)) →
      CallsIn .wide 1 Try.prog 60 #[.func (.yield l) #[] #[], .pointer (some ⟨Bn, 0, none⟩), .pointer (some ⟨Bd, 0, none⟩)] W fun e W' => (∃ v, e = .returned v) ∧ ∃ A' : Nat → Prop, (∀ k, A k → A' k) ∧ (J A' (p ++ S) W' ∨ ∃ q, q <+: S ∧ Jx A' (p ++ q) W') := by
  rcases hr with ⟨rfl, rfl⟩ | ⟨h, n, K, rfl, t, rfl, hf, hk⟩
  · refine ⟨[], 0, by omega, fun m hl => height_root_is g _ m W0 (fun _ => False) 0 (by omega) hl (.inl ⟨rfl, rfl⟩), fun _ h => absurd h List.not_mem_nil, fun G Ok l n0 A J Jx p Bn Bd W hs hp _ hJ hn hF hBn hBd c0 c1 hlen => ?_⟩
    refine (nodes_nil_is hp hJ c0).mono ?_
    rintro e W' ⟨h1, A', h2, h3⟩
    exact ⟨h1, A', h2, .inl (by rw [List.append_nil]; exact h3)⟩
  · have hfew := t.few hL
    refine ⟨allN (h + 1) n 1, h + 1, by omega, fun m hl => height_root_is g _ m W0 K (h + 1) (by omega) hl (.inr ⟨h, 1, n, rfl, t, by omega⟩), fun x hx => ⟨n.g, rfl, (hf n.g 0 (.inl (.inl ⟨rfl, by omega⟩))).1, ⟨_, t.inn.self.g0⟩, t.inn.self.fz, ?_⟩, fun G Ok l n0 A J Jx p Bn Bd W hs hp hG hJ hn hF hBn hBd c0 c1 hlen => ?_⟩
    · obtain ⟨h1, h2, h3, h4⟩ := allN_good t.wf (by omega) x hx
      refine ⟨h1, h2, fun hne => ?_, by rw [h3]; constructor <;> intro h5 <;> omega, h4⟩
      rcases List.mem_cons.1 hx with rfl | hx
      · exact absurd rfl hne
      · obtain ⟨c, hc, hx⟩ := List.mem_flatMap.1 hx
        exact (allN_good (t.wf.2.2.2 c hc) (by omega) x hx).1
    · exact nodes_all (h + 1) G Ok n 1 7 l n0 K A J Jx p Bn Bd 1 W (by omega) hp hJ hn (t.stay hs (fun k p hx => (hf k p hx).1) (fun k hx => (hk k hx).1)) hG (fun k p hx => hF k (hf k p hx).1) (fun k hx => hF k (hk k hx).1) hBn hBd c0 c1 (by omega) (by omega) hlen

end Go.Proofs.Ytfikaccgpjiedaa

/-
  from at a root: all entries from a key on; what a loop over them that stops comes to.
-/
namespace Go.Proofs.Ytfikaccgpjiedaa
open Go.RowKit Go.Lib

theorem from_all : ∀ h, FromC (h + 1)
  | 0 => from_leaf_is
  | h + 1 => from_node_is h (from_all h)

/-- Nothing lies below nil. -/
theorem from_nil_is {Ok : List CE → Prop} {l n0 : Nat} {A : Nat → Prop} {J Jx : (Nat → Prop) → List CE → World → Prop} {p : List CE} {Bn Bk : Nat} {W : World} {G : CE → Prop} (hp : Party Try.prog encE (KG G) Ok l n0 J Jx) (hJ : J A p W) (hBn : W.cell? ⟨Bn, 0, none⟩ = some (.pointer none)) :
    CallsIn .wide 1 Try.prog 47 #[.func (.yield l) #[] #[], .pointer (some ⟨Bn, 0, none⟩), .pointer (some ⟨Bk, 0, none⟩)] W fun e W' => (∃ v, e = .returned v) ∧ ∃ A' : Nat → Prop, (∀ k, A k → A' k) ∧ J A' p W' := by
  have hb := Below.allocs W (.cells #[.func (.yield l) #[] #[]] 57)
  have hj := hp.j.below hJ hb
  have HE : Hid (∃ A' : Nat → Prop, (∀ k, A k → A' k) ∧ J A' p (W.alloc (.cells #[.func (.yield l) #[] #[]] 57))) := Lib.hid ⟨_, fun k hk => .inl hk, hj⟩
  have blt := World.block_lt_of_cell? _ _ hBn
  clear hb hj hJ hp
  refine callsIn_of_wp_marks Try.func47 rfl trivial ?_ rfl
  simp only [Try.ntmps47, List.size_toArray, List.length_cons, List.length_nil, Nat.reduceAdd, Nat.reduceSub, Array.replicate_succ, Array.replicate_zero, List.push_toArray, List.append_toArray, List.nil_append, List.cons_append]
  refine wpIn_wide.2 ?_
  go_wp2_with fail
  exact ⟨.tuple #[], by simp [results, Try.results47, go_sem], ⟨_, rfl⟩, HE.out⟩

theorem entsC_filter (l : List CE) (key : List Val) : entsC (l.filter (gek key)) = (entsC l).filter (fun e => !ltK e.key key) := by
  unfold entsC
  rw [List.filter_map]
  rfl

/-- All that a root hands over from a key on. -/
theorem root_from {W0 : World} {g : Nat} {r : Value} {L : List Ent} {F : Nat → Prop} (hr : RootIs W0 g r L F) (key : List Val) :
    ∃ S : List CE, entsC S = L.filter (fun e => !ltK e.key key) ∧ (∀ x ∈ S, KOk F W0 x) ∧ ∀ (G : CE → Prop) (Ok : List CE → Prop) (l n0 : Nat) (A : Nat → Prop) (J Jx : (Nat → Prop) → List CE → World → Prop) (p : List CE) (Bn Bk : Nat) (ka : Option Addr) (kc kn : Nat) (W : World), Stay F W0 W → Party Try.prog encE (KG G) Ok l n0 J Jx → (∀ x ∈ S, G x) → J A p W → n0 ≤ W.heap.size →
      (∀ k, F k → A k) → A Bn → A Bk → W.cell? ⟨Bn, 0, none⟩ = some r → W.cell? ⟨Bk, 0, none⟩ = some (.slice ka kn kc) → key.length = kn → SlG A W ka kc key → (∀ q, q <+: S → Ok (p ++ q)) →
      CallsIn .wide 1 Try.prog 47 #[.func (.yield l) #[] #[], .pointer (some ⟨Bn, 0, none⟩), .pointer (some ⟨Bk, 0, none⟩)] W fun e W' => (∃ v, e = .returned v) ∧ ∃ A' : Nat → Prop, (∀ k, A k → A' k) ∧ (J A' (p ++ S) W' ∨ ∃ q, q <+: S ∧ Jx A' (p ++ q) W') := by
  rcases hr with ⟨rfl, rfl⟩ | ⟨h, n, K, rfl, t, rfl, hf, hk⟩
  · refine ⟨[], rfl, fun _ h => absurd h List.not_mem_nil, fun G Ok l n0 A J Jx p Bn Bk ka kc kn W hs hp _ hJ hn hF hBn hBk c0 c1 hkn hsl hlen => ?_⟩
    refine (from_nil_is hp hJ c0).mono ?_
    rintro e W' ⟨h1, A', h2, h3⟩
    exact ⟨h1, A', h2, .inl (by rw [List.append_nil]; exact h3)⟩
  · refine ⟨allF (h + 1) n key, entsC_filter _ _, fun x hx => (t.key x (List.mem_filter.1 hx).1).mono (fun k h => (hk k h).1), fun G Ok l n0 A J Jx p Bn Bk ka kc kn W hs hp hG hJ hn hF hBn hBk c0 c1 hkn hsl hlen => ?_⟩
    exact from_all h G Ok n 1 7 l n0 K A J Jx p Bn Bk ka kc kn key W (by omega) hp hJ hn (t.stay hs (fun k p hx => (hf k p hx).1) (fun k hx => (hk k hx).1)) hG (fun k p hx => hF k (hf k p hx).1) (fun k hx => hF k (hk k hx).1) hBn hBk c0 c1 hkn hsl hlen

theorem RootIs.stay {W W' : World} {g : Nat} {r : Value} {L : List Ent} {F : Nat → Prop} (hr : RootIs W g r L F) (hs : Stay F W W') : RootIs W' g r L F := by
  rcases hr with hr | ⟨h, n, K, rfl, ht, he, hf, hk⟩
  · exact .inl hr
  · exact .inr ⟨h, n, K, rfl, ht.stay hs (fun k p h => (hf k p h).1) (fun k h => (hk k h).1), he, hf, hk⟩

/-- A root is a pointer. -/
theorem RootIs.ptr {W : World} {g : Nat} {r : Value} {L : List Ent} {F : Nat → Prop} (hr : RootIs W g r L F) : ∃ q, r = .pointer q := by
  rcases hr with ⟨rfl, _⟩ | ⟨h, n, K, rfl, _⟩
  · exact ⟨_, rfl⟩
  · exact ⟨_, rfl⟩

/-- Where a loop that takes entries as long as they serve has stopped, it has taken all that serve. -/
theorem filter_stop {α : Type} {c : α → Bool} {S p : List α} {x : α} (hs : S.Pairwise (fun a b => c b = true → c a = true)) (hq : p ++ [x] <+: S) (h0 : ∀ y ∈ p, c y = true) (hx : c x = false) : S.filter c = p := by
  obtain ⟨r, rfl⟩ := hq
  rw [List.append_assoc] at hs ⊢
  have h1 := (List.pairwise_append.1 hs).2.1
  have h2 : ∀ y ∈ r, c y = false := fun y hy => by
    cases hc : c y with
    | false => rfl
    | true =>
      have := (List.pairwise_cons.1 h1).1 y hy hc
      rw [hx] at this
      cases this
  rw [List.filter_append, List.filter_eq_self.2 h0, List.filter_eq_nil_iff.2 (by
    intro y hy
    rcases List.mem_cons.1 (by simpa using hy) with rfl | hy
    · simp [hx]
    · simp [h2 y hy]), List.append_nil]

/-- One step of append, its run laid ahead, in a fence. -/
theorem append_step {F : Fence} {n : Nat} (w : World) {ops : Array Oper} {rest : List Oper} {o : Oper} {a : Act} {Q : Exit → Act → World → Prop} (hg : o.guard = none) (s x : Operand) (t : TypeId)
    (hop : o.op = Op.call { callee := Callee.builtin Builtin.append, args := #[s, x], argTypes := #[t, t] }) (v xv v' : Value) (w' : World) (hs : a.eval s = v) (hx : a.eval x = xv)
    (hrun : (Builtin.append_ #[t, t] o.type #[v, xv]).run Try.prog w = .ok v' w') (hK : wpListIn F n Try.prog ops Q rest (a.put o.dst v') w') : wpListIn F n Try.prog ops Q (o :: rest) a w := by
  refine wpListIn_plain hg fun K hK' => ?_
  unfold Oper.wpIn
  refine ⟨?_, ?_⟩
  · simp [Oper.about, hop, resolve, Target.leads, Sem.run_pure]
  · rw [Oper.semAt_plain F _ _ (by rw [hop]; intro c hc'; cases hc')]
    simp [execOp, hop, resolve, invoke, builtin, hs, hx, hrun, Result.andThen]
    exact hK' _ _ hK

def zI : Value := .int .i64 0
theorem elI : ∃ i, El 41 3 1 i zI :=
  el_of (by kernel_rfl) (by kernel_rfl) rfl (by omega) (by intro v hv; simp [zI, Value.cells] at hv; subst hv; rfl) (fun w => by kernel_rfl) (fun w => by kernel_rfl)

/-- A row of whole numbers, as a slice of them. -/
theorem RowS.slI {W : World} {a : Option Addr} {n c : Nat} {l : List Int} (h : RowS 1 W a n c (l.map (Value.int .i64))) (hw : ∀ x ∈ l, I64 x) : SlI W a c l := by
  have hl := h.len
  rw [List.length_map, Nat.mul_one] at hl
  refine ⟨by rw [hl]; exact h.nc, h.cm, fun hne => ?_, hw⟩
  rcases h.at' with ⟨_, h0⟩ | ⟨b, o, rfl, hb, hc, _⟩
  · have := h.nc
    have h1 : l.length = 0 := by omega
    exact absurd (List.eq_nil_of_length_eq_zero h1) hne
  · exact ⟨b, o, rfl, hb, fun i x hx => hc i _ (by simp [hx])⟩

end Go.Proofs.Ytfikaccgpjiedaa

/-
  Find: walked.
-/
namespace Go.Proofs.Ytfikaccgpjiedaa
open Go.RowKit Go.Lib

def idv (p : List CE) : List Value := (p.map fun x => x.e.id).map (Value.int .i64)

/-- What Find has put together so far. -/
structure FindR (w : World) (E : Nat) (A : Nat → Prop) (p : List CE) (a1 : Option Addr) (c1 : Nat) (W : World) : Prop where
  bel : Below w.heap.size w W
  lt : ∀ k, A k → k < W.heap.size
  nE : ¬ A E
  hE : w.heap.size ≤ E
  box : Lit W E [.slice a1 p.length c1]
  row : RowS 1 W a1 p.length c1 (idv p)
  new : ∀ k q, SlF 1 a1 c1 k q → w.heap.size ≤ k ∧ k ≠ E ∧ ¬ A k
  i64 : ∀ x ∈ p, I64 x.e.id

def FindI (w : World) (E : Nat) (c : CE → Bool) (A : Nat → Prop) (p : List CE) (W : World) : Prop := (∃ a1 c1, FindR w E A p a1 c1 W) ∧ ∀ y ∈ p, c y = true
def FindX (w : World) (E : Nat) (c : CE → Bool) (A : Nat → Prop) (p : List CE) (W : World) : Prop := ∃ p0 x, p = p0 ++ [x] ∧ c x = false ∧ FindI w E c A p0 W

theorem FindR.own {w : World} {E n1 : Nat} {A A' : Nat → Prop} {p : List CE} {a1 : Option Addr} {c1 : Nat} {W W' : World} (hn : w.heap.size ≤ n1) (h : FindR w E A p a1 c1 W) (ht : Touch (fun k => A k ∧ n1 ≤ k) W W') (hA : ∀ k, A' k ↔ A k ∨ (W.heap.size ≤ k ∧ k < W'.heap.size)) : FindR w E A' p a1 c1 W' := by
  have hsz := ht.size
  have hb := h.bel.size
  have hel := h.box.lt
  have hrl := h.row.lt
  refine ⟨h.bel.trans (ht.below (fun k hk => Nat.le_trans hn hk.2) hb), fun k hk => ?_, fun hk => ?_, h.hE, h.box.stay (ht.stay (G := fun k => k = E) fun k hk hx => ?_) rfl, h.row.stay (ht.stay (G := fun k => ∃ q, SlF 1 a1 c1 k q) fun k hk hx => ?_) (fun k q hq => ⟨q, hq⟩), fun k q hq => ?_, h.i64⟩
  · rcases (hA k).1 hk with hk | hk
    · have := h.lt k hk; omega
    · exact hk.2
  · rcases (hA E).1 hk with hk | hk
    · exact h.nE hk
    · omega
  · subst hk; exact h.nE hx.1
  · obtain ⟨q, hq⟩ := hk; exact (h.new k q hq).2.2 hx.1
  · obtain ⟨h1, h2, h3⟩ := h.new k q hq
    have := hrl k q hq
    exact ⟨h1, h2, fun hk => ((hA k).1 hk).elim h3 (fun h => by omega)⟩

theorem FindR.grow {w : World} {E : Nat} {A : Nat → Prop} {p : List CE} {a1 : Option Addr} {c1 : Nat} {W W' : World} (h : FindR w E A p a1 c1 W) (hb : Below W.heap.size W W') : FindR w E A p a1 c1 W' :=
  ⟨h.bel.trans (hb.mono h.bel.size), fun k hk => Nat.lt_of_lt_of_le (h.lt k hk) hb.size, h.nE, h.hE, h.box.below hb, h.row.below hb, h.new, h.i64⟩

theorem findI_own (w : World) (E n1 : Nat) (c : CE → Bool) (hn : w.heap.size ≤ n1) : OwnP n1 (FindI w E c) :=
  ⟨fun ⟨⟨_, _, h⟩, _⟩ => h.lt, fun ⟨⟨a1, c1, h⟩, hc⟩ ht hA => ⟨⟨a1, c1, h.own hn ht hA⟩, hc⟩, fun ⟨⟨a1, c1, h⟩, hc⟩ hb => ⟨⟨a1, c1, h.grow hb⟩, hc⟩⟩
theorem findX_own (w : World) (E n1 : Nat) (c : CE → Bool) (hn : w.heap.size ≤ n1) : OwnP n1 (FindX w E c) :=
  ⟨fun ⟨_, _, _, _, h⟩ => (findI_own w E n1 c hn).lt h, fun ⟨p0, x, e, hx, h⟩ ht hA => ⟨p0, x, e, hx, (findI_own w E n1 c hn).own h ht hA⟩, fun ⟨p0, x, e, hx, h⟩ hb => ⟨p0, x, e, hx, (findI_own w E n1 c hn).grow h hb⟩⟩

theorem lit_put_one {W : World} {g : Nat} {u : Value} (h : Lit W g [u]) {u' : Value} (h2 : u'.oneCell' = true) : Lit (W.setCell ⟨g, 0, none⟩ u') g [u'] := by
  have c0 := h.at' 0 u rfl
  refine ⟨by simpa [World.setCell] using h.lt, fun j x hx => ?_, fun j => ?_, fun x hx => ?_⟩
  · match j, hx with
    | 0, hx => simp at hx; subst hx; exact World.cell?_setCell_same _ _ _ c0
    | j + 1, hx => simp at hx
  · rw [World.frozen?_setCell]
    exact h.fz j
  · simp at hx
    subst hx
    exact h2

/-- One number more. -/
theorem FindR.next {w : World} {E : Nat} {A : Nat → Prop} {p : List CE} {a1 : Option Addr} {c1 : Nat} {W W4 W5 : World} {x : CE} (h : FindR w E A p a1 c1 W) (hx : I64 x.e.id) (h4 : Below W.heap.size W W4) {a' : Option Addr} {c' : Nat} (hr : RowS 1 W5 a' (p.length + 1) c' (idv p ++ [.int .i64 x.e.id])) (hsub : ∀ k q, SlF 1 a' c' k q → SlF 1 a1 c1 k q ∨ W4.heap.size ≤ k) (ht : TouchC (SlF 1 a1 c1) W4 W5) :
    FindR w E A (p ++ [x]) a' c' (W5.setCell ⟨E, 0, none⟩ (.slice a' (p.length + 1) c')) ∧ Stay A W (W5.setCell ⟨E, 0, none⟩ (.slice a' (p.length + 1) c')) := by
  obtain ⟨W6, h6⟩ : ∃ W6, W5.setCell ⟨E, 0, none⟩ (.slice a' (p.length + 1) c') = W6 := ⟨_, rfl⟩
  have hs4 := h4.size
  have hs5 := ht.size
  have hel := h.box.lt
  have hsb := h.bel.size
  have tc : TouchC (fun k _ => k = E) W5 W6 := by rw [← h6]; exact TouchC.setCell (F := fun k _ => k = E) (TouchC.refl _ _) rfl _
  have hs6 := tc.size
  have hrow : ∀ k q, SlF 1 a' c' k q → w.heap.size ≤ k ∧ k ≠ E ∧ ¬ A k := fun k q hq => by
    rcases hsub k q hq with h1 | h1
    · exact h.new k q h1
    · exact ⟨by omega, by omega, fun hk => by have := h.lt k hk; omega⟩
  have b5 : Lit W5 E [.slice a1 p.length c1] := (h.box.below h4).touch ht (fun q hq => (h.new E q hq).2.1 rfl)
  have b6 : Lit W6 E [.slice a' (p.length + 1) c'] := by rw [← h6]; exact lit_put_one b5 rfl
  have hst : Stay A W W6 := (Stay.of_below h4).trans ((ht.stay fun k q hk hf => (h.new k q hf).2.2 hk).trans (tc.stay fun k q hk hf => h.nE (by rw [← hf]; exact hk)))
  have hbel : Below w.heap.size w W6 := (h.bel.trans (h4.mono hsb)).trans (((ht.touch (G := fun k => w.heap.size ≤ k) fun k q _ hf => (h.new k q hf).1).below (fun _ h => h) (by omega)).trans ((tc.touch (G := fun k => w.heap.size ≤ k) fun k q _ hf => by rw [hf]; exact h.hE).below (fun _ h => h) (by omega)))
  rw [h6]
  refine ⟨⟨hbel, fun k hk => ?_, h.nE, h.hE, by rw [List.length_append]; exact b6, ?_, hrow, fun y hy => ?_⟩, hst⟩
  · have := h.lt k hk; omega
  · have e : idv (p ++ [x]) = idv p ++ [.int .i64 x.e.id] := by simp [idv]
    rw [e, List.length_append]
    exact hr.touch tc (fun k q hq he => (hrow k q hq).2.1 he)
  · rcases List.mem_append.1 hy with hy | hy
    · exact h.i64 y hy
    · obtain rfl : y = x := by simpa using hy
      exact hx

/-! ### What comes of it -/

def keyIs (key : List Val) (x : CE) : Bool := decide (x.e.key = key)

theorem find_ids {L : List Ent} {key : List Val} {S m : List CE} (hS : entsC S = L.filter (fun e => !ltK e.key key)) (hm : S.filter (keyIs key) = m) : m.map (fun x => x.e.id) = idsOf key L := by
  have e1 : entsC m = (entsC S).filter (fun e => decide (e.key = key)) := by
    rw [← hm]
    unfold entsC
    rw [List.filter_map]
    rfl
  have e2 : entsC m = L.filter (fun e => decide (e.key = key)) := by
    rw [e1, hS, List.filter_filter]
    refine List.filter_congr fun e _ => ?_
    by_cases h : e.key = key
    · have : ltK e.key key = false := by rw [h]; unfold ltK; rw [(cmpL_zero key key).2 rfl]; rfl
      rw [h] at this ⊢
      rw [this]
      simp
    · simp [h]
  unfold idsOf
  rw [← e2]
  unfold entsC
  rw [List.map_map]
  rfl

theorem find_srt {L : List Ent} {key : List Val} {S : List CE} (hs : Srt ltE L) (hS : entsC S = L.filter (fun e => !ltK e.key key)) : S.Pairwise (fun a b => keyIs key b = true → keyIs key a = true) := by
  have h1 : (entsC S).Pairwise (fun a b => ltE a b = true) := by rw [hS]; exact List.Pairwise.filter _ hs
  have h2 : ∀ y ∈ S, ltK y.e.key key = false := fun y hy => by
    have : y.e ∈ entsC S := List.mem_map.2 ⟨y, hy, rfl⟩
    rw [hS] at this
    have := (List.mem_filter.1 this).2
    simpa using this
  have h3 := List.pairwise_map.1 h1
  refine h3.imp_of_mem fun {a b} ha hb hab hk => ?_
  unfold keyIs at hk ⊢
  have hk' := of_decide_eq_true hk
  refine decide_eq_true ?_
  have h4 := h2 a ha
  have h5 := ltK_of hab
  rw [hk'] at h5
  unfold ltK at h4 h5
  have h4' := of_decide_eq_false h4
  have h5' := of_decide_eq_false h5
  have h6 := cmpL_neg a.e.key key
  refine (cmpL_zero _ _).1 ?_
  omega

theorem find_end {w : World} {E : Nat} {A : Nat → Prop} {m S : List CE} {a1 : Option Addr} {c1 : Nat} {W : World} {key : List Val} {L : List Ent} (h : FindR w E A m a1 c1 W) (hS : entsC S = L.filter (fun e => !ltK e.key key)) (hm : S.filter (keyIs key) = m) :
    SlI W a1 c1 (idsOf key L) ∧ m.length = (idsOf key L).length ∧ S.filter (keyIs key) = m := by
  have e := find_ids hS hm
  refine ⟨?_, by rw [← e, List.length_map], hm⟩
  rw [← e]
  exact h.row.slI fun x hx => by
    obtain ⟨y, hy, rfl⟩ := List.mem_map.1 hx
    exact h.i64 y hy


section
attribute [local go_sem] Oper.semAt_some
set_option maxRecDepth 100000 in
set_option maxHeartbeats 4000000 in
theorem tfind_is (w : World) (g : Nat) (L : List Ent) (F : Nat → Prop) (a : Option Addr) (c n : Nat) (key : List Val) (hn : key.length = n) (hL : L.length ≤ 2000) (hk : SlL w a c key) (ht : Top w g L F) :
    Calls Try.prog 23 #[nodeV g, .slice a n c] w fun e w' => ∃ a1 c1, e = .returned (.slice a1 (idsOf key L).length c1) ∧ SlI w' a1 c1 (idsOf key L) ∧ Below w.heap.size w w' := by
  have mixed : Try.prog.follows Departure.mixedOrders = true := by kernel_rfl
  obtain ⟨r, hl, hr⟩ := ht.lit
  obtain ⟨q, rfl⟩ := hr.ptr
  obtain ⟨S, hS, _, hcall⟩ := root_from hr key
  have hSl : S.length ≤ 2000 := by
    have h1 : (entsC S).length = S.length := List.length_map _
    have h2 := List.length_filter_le (fun e : Ent => !ltK e.key key) L
    rw [← hS] at h2
    omega
  have hsrt := find_srt ht.srt hS
  have b1 := Below.allocs w (.cells #[.slice a n c] 27)
  have b2 := Below.allocs (w.alloc (.cells #[.slice a n c] 27)) (.cells #[.slice none 0 0] 41)
  have l1 := (Lit.new w [.slice a n c] 27 (by intro v hv; simp at hv; subst hv; rfl)).below b2
  have l2 := Lit.new (w.alloc (.cells #[.slice a n c] 27)) [.slice none 0 0] 41 (by intro v hv; simp at hv; subst hv; rfl)
  rw [World.size_alloc] at l2
  obtain ⟨V, hV⟩ : ∃ V, (w.alloc (.cells #[.slice a n c] 27)).alloc (.cells #[.slice none 0 0] 41) = V := ⟨_, rfl⟩
  obtain ⟨k0, hk0⟩ : ∃ k0, w.heap.size = k0 := ⟨_, rfl⟩
  have bV := below_tr b1 b2
  rw [show ([Value.slice a n c] : List Value).toArray = (#[.slice a n c] : Array Value) from rfl] at l1
  rw [show ([Value.slice none 0 0] : List Value).toArray = (#[.slice none 0 0] : Array Value) from rfl] at l2
  rw [hV] at bV l1 l2
  rw [hk0] at l1 l2
  have hrd : ∀ W, Below V.heap.size V W → W.cell? ⟨g, 0, none⟩ = some (.pointer q) ∧ W.cell? ⟨k0, 0, none⟩ = some (.slice a n c) := fun W hb =>
    ⟨(hl.below (below_tr bV hb)).two.1, (l1.below hb).at' 0 _ rfl⟩
  have HRD := Lib.hid hrd
  have HV := Lib.hid hV
  have HK0 := Lib.hid hk0
  have HBV := Lib.hid bV
  have HL1 := Lib.hid l1
  have HL2 := Lib.hid l2
  have HSR := Lib.hid (And.intro hS (And.intro hSl hsrt))
  have HC := Lib.hid hcall
  have HK := Lib.hid hk
  have HT := Lib.hid ht
  have HN := Lib.hid hn
  have glt := hl.lt
  have c0 := hl.two.1
  clear hl hr ht hS hSl hcall hsrt b1 b2 l1 l2 hV bV hk hn hrd hk0
  unfold nodeV
  refine (callsIn_wide (n := 1)).1 ?_
  refine callsIn_of_wp_marks Try.func23 rfl trivial ?_ rfl
  simp only [Try.ntmps23, List.size_toArray, List.length_cons, List.length_nil, Nat.reduceAdd, Nat.reduceSub, Array.replicate_succ, Array.replicate_zero, List.push_toArray, List.append_toArray, List.nil_append, List.cons_append]
  refine wpIn_wide.2 ?_
  go_wp2_with fail
  rw [HV.out]
  simp only [HK0.out]
  clear glt c0
  have glt : g < V.heap.size := Nat.lt_of_lt_of_le (HT.out.lt g HT.out.mine) HBV.out.size
  have hdr4 := below_drw V
  try simp only [List.append_eq, List.cons_append, List.nil_append]
  refine RX.wp_region_plan (fun w w' => Below w.heap.size w w') [.it (.pointer (some ⟨g, 0, none⟩)), .it (.pointer (some ⟨g, 0, none⟩)), .it (.pointer (some ⟨g, 0, none⟩)), .it (.pointer q), .it (.slice a n c), .of (fun W v => FromV V.heap.size (.pointer q) a n c W v)] (by kernel_rfl) (by kernel_rfl) (fun _ => Below.refl _ _) (fun _ _ _ => below_tr) ?_
  refine RX.seqP_value (fun _ => Below.refl _ _) _ (by first | rfl | simp) (fun w' hw' hctx => ?_) ?_
  · go_simp
    try first | with_reducible rfl | simp
  simp only [Act.put, List.setIfInBounds_toArray, List.set_cons_zero, List.set_cons_succ]
  refine RX.seqP_value (fun _ => Below.refl _ _) _ (by first | rfl | simp) (fun w' hw' hctx => ?_) ?_
  · go_simp
    try first | with_reducible rfl | simp
  simp only [Act.put, List.setIfInBounds_toArray, List.set_cons_zero, List.set_cons_succ]
  refine RX.seqP_value (fun _ => Below.refl _ _) _ (by first | rfl | simp) (fun w' hw' hctx => ?_) ?_
  · go_simp
    try first | with_reducible rfl | simp
  simp only [Act.put, List.setIfInBounds_toArray, List.set_cons_zero, List.set_cons_succ]
  refine RX.seqP_value (fun _ => Below.refl _ _) _ (by first | rfl | simp) (fun w' hw' hctx => ?_) ?_
  · obtain ⟨c0, c1⟩ := HRD.out w' (below_tr hdr4 hw')
    go_simp
    try first | with_reducible rfl | simp
  simp only [Act.put, List.setIfInBounds_toArray, List.set_cons_zero, List.set_cons_succ]
  refine RX.seqP_value (fun _ => Below.refl _ _) _ (by first | rfl | simp) (fun w' hw' hctx => ?_) ?_
  · obtain ⟨c0, c1⟩ := HRD.out w' (below_tr hdr4 hw')
    go_simp
    try first | with_reducible rfl | simp
  simp only [Act.put, List.setIfInBounds_toArray, List.set_cons_zero, List.set_cons_succ]
  refine RX.seqP_callOf (33) #[.pointer q, .slice a n c] (fun W v => FromV V.heap.size (.pointer q) a n c W v) (fun w w' v hb h => h.below hb) (by first | rfl | simp) (fun w' hw' hctx => ?_) (fun w' hw' hctx => from_of V.heap.size q a n c w' ((below_tr hdr4 hw')).size) (fun u14 => ?_)
  · go_simp
  simp only [Act.put, List.setIfInBounds_toArray, List.set_cons_zero, List.set_cons_succ]
  refine RX.seqP_nil (fun v3 hR hctx _ => ?_)
  have hv3 := below_tr hdr4 hR
  obtain ⟨B, rfl, hBs, hB0, hB1⟩ := hctx.1
  clear hctx hR
  have BV3 := Lib.hid (below_tr HBV.out hv3)
  have HE3 : Hid (Lit v3 (k0 + 1) [.slice none 0 0]) := Lib.hid (HL2.out.below hv3)
  have HK3 : Hid (v3.cell? ⟨k0, 0, none⟩ = some (.slice a n c)) := Lib.hid ((HL1.out.below hv3).at' 0 _ rfl)
  have hbl0 := World.block_lt_of_cell? _ _ hB0
  have hbl1 := World.block_lt_of_cell? _ _ hB1
  have hVs : k0 + 1 < V.heap.size := HL2.out.lt
  have HB : Hid ((k0 + 1 < B ∧ B + 1 < v3.heap.size) ∧ v3.cell? ⟨B, 0, none⟩ = some (.pointer q) ∧ v3.cell? ⟨B + 1, 0, none⟩ = some (.slice a n c)) := Lib.hid ⟨⟨by omega, by omega⟩, hB0, hB1⟩
  have HSZ : Hid (w.heap.size ≤ v3.heap.size) := Lib.hid BV3.out.size
  clear hBs hB0 hB1 hbl0 hbl1 hVs hv3 hdr4 glt
  go_wp2_with fail
  refine (wpIn_wide (n := 1)).1 ?_
  refine wpIn_range (tellsE fun _ => True) (fun l => l.length ≤ S.length) (FindI w (k0 + 1) (keyIs key)) (FindX w (k0 + 1) (keyIs key)) (findI_own w (k0 + 1) _ _ HSZ.out) (findX_own w (k0 + 1) _ _ HSZ.out) (fun k => k < v3.heap.size ∧ k ≠ k0 + 1) [] S ?start rfl from_enters encE_size (fun x W => W.alloc (.cells #[.slice x.a x.e.key.length x.c, .int .i64 x.e.id] 37)) (fun x W => Below.allocs _ _) (.exit 0) (.exit 0) (.inr ⟨0, rfl, rfl⟩) ?round ?call ?done ?stop
  case start =>
    refine ⟨⟨none, 0, BV3.out, fun k hk => hk.1, fun hk => hk.2 rfl, by rw [HK0.out]; omega, HE3.out, RowS.nil _ _, fun k q hq => absurd hq (slf_nil _ _ _ _), fun _ h => absurd h List.not_mem_nil⟩, fun _ h => absurd h List.not_mem_nil⟩
  case round =>
    intro l2 x Wl hl2 hl2'
    simp only [encE]
    gi_wp2
    refine ⟨rfl, fun A3 p2 W2 hI2 _ hT2 hpl hA3 hst2 hAl hk _ => ?_⟩
    have hnl := Lit.entry Wl x.a x.e.key.length x.c x.e.id
    have hne : Wl.heap.size ≠ l2 := by omega
    have e0 : W2.cell? ⟨Wl.heap.size, 0, none⟩ = some (.slice x.a x.e.key.length x.c) := by rw [World.cell?_of_block (hk _ hne)]; exact hnl.at' 0 _ rfl
    have e1 : W2.cell? ⟨Wl.heap.size, 1, none⟩ = some (.int .i64 x.e.id) := by rw [World.cell?_of_block (hk _ hne)]; exact hnl.at' 1 _ rfl
    have e2 : W2.cell? ⟨k0, 0, none⟩ = some (.slice a n c) := by
      have hlt := World.block_lt_of_cell? _ _ HK3.out
      rw [hst2.cell hlt ⟨hlt, Nat.ne_of_lt (Nat.lt_succ_self _)⟩]
      exact HK3.out
    obtain ⟨⟨a1, c1, hR⟩, hall⟩ := hI2
    obtain ⟨kn, hkn⟩ : ∃ kn, x.e.key.length = kn := ⟨_, rfl⟩
    rw [hkn] at e0
    obtain ⟨rc, hrc⟩ : ∃ rc, cmpL x.e.key key = rc := ⟨_, rfl⟩
    have hkk : SlL W2 a c key := HK.out.below hR.bel
    have hcon := ckey_is x.a a x.c c kn n x.e.key key x.e.id rc hkn HN.out hrc W2 hT2.1.1.sl hkk
    have blt := World.block_lt_of_cell? _ _ e0
    have klt := World.block_lt_of_cell? _ _ e2
    have HCON := Lib.hid hcon
    have HR := Lib.hid (And.intro hR hall)
    have hpl' : p2.length < S.length := by
      have h : (p2 ++ [x]).length ≤ S.length := hpl
      rw [List.length_append, List.length_singleton] at h
      omega
    have HX := Lib.hid (And.intro hT2.1.2.1 hpl')
    have HRC := Lib.hid hrc
    have HEW : Hid (W2.cell? ⟨Wl.heap.size, 1, none⟩ = some (.int .i64 x.e.id)) := Lib.hid e1
    obtain ⟨b, hb⟩ : ∃ b, Wl.heap.size = b := ⟨_, rfl⟩
    simp only [hb] at e0 e1 blt HEW ⊢
    clear hnl hk hT2 hpl hA3 hst2 hR hall hkk hcon hrc hAl hb hne hkn
    gi_wp2_with fail
    refine ⟨trivial, rfl, CallsIn.mono (RX.callsIn_at (r := some l2) HCON.out) ?_⟩
    rintro e w3 ⟨rfl, hb3⟩
    have HB3 := Lib.hid hb3
    clear hb3 HCON e0 e2 blt klt
    by_cases hz : rc = 0
    · subst hz
      have hkey : x.e.key = key := (cmpL_zero _ _).1 HRC.out
      have hR3 := HR.out.1.grow HB3.out
      obtain ⟨ii, EI⟩ := elI
      obtain ⟨m, hm⟩ : ∃ m, p2.length = m := ⟨_, rfl⟩
      have hm1 : m ≤ 2000 := by have := HX.out.2; have := HSR.out.2.1; omega
      have hal := Below.allocs w3 (.cells #[.int .i64 x.e.id] 3)
      have lv := Lit.new w3 [.int .i64 x.e.id] 3 (by intro v hv; simp at hv; subst hv; rfl)
      have hsrc : Src Try.prog 1 41 (.slice (some ⟨w3.heap.size, 0, none⟩) 1 1) 1 [.int .i64 x.e.id] (w3.alloc (.cells #[.int .i64 x.e.id] 3)) := Src.ofSlice _ EI.ut ⟨w3.heap.size, 0, none⟩ 1 1 _ (by simp) lv.at'.add lv.one
      have hrow := hR3.row.below hal
      have hbox := hR3.box
      rw [hm] at hrow hbox
      obtain ⟨a', c', W5, hrun, har, hasub, hat⟩ := row_app EI hrow _ 1 _ hsrc (by omega)
      have hnext := hR3.next (x := x) HX.out.1 hal (by rw [hm]; exact har) hasub hat
      rw [hm] at hnext
      have b5 := (hbox.below hal).touch hat (fun q hq => (hR3.new _ q hq).2.1 rfl)
      have b0 := hbox.at' 0 _ rfl
      have d0 := b5.at' 0 _ rfl
      have d1 := b5.fz 0
      have blt := hbox.lt
      have blt5 := b5.lt
      have elt := World.block_lt_of_cell? _ _ HEW.out
      have e1 : w3.cell? ⟨b, 1, none⟩ = some (.int .i64 x.e.id) := by rw [HB3.out.cell (p := ⟨b, 1, none⟩) elt]; exact HEW.out
      have elt3 : b < w3.heap.size := Nat.lt_of_lt_of_le elt HB3.out.size
      have HNX : Hid (FindI w (k0 + 1) (keyIs key) A3 (p2 ++ [x]) (W5.setCell ⟨k0 + 1, 0, none⟩ (.slice a' (m + 1) c')) ∧ Stay A3 W2 (W5.setCell ⟨k0 + 1, 0, none⟩ (.slice a' (m + 1) c'))) := Lib.hid ⟨⟨⟨a', c', hnext.1⟩, fun y hy => by
        rcases List.mem_append.1 hy with hy | hy
        · exact HR.out.2 y hy
        · obtain rfl : y = x := by simpa using hy
          exact decide_eq_true hkey⟩, (Stay.of_below HB3.out).trans hnext.2⟩
      have HRUN := Lib.hid (hrun 41)
      clear hR3 hal lv hsrc hrow hbox hrun har hasub hat hnext b5 elt hkey hm EI
      gi_wp2_with (gi_at_builtin; refine append_step _ rfl _ _ 41 rfl _ _ _ _ rfl rfl HRUN.out ?_)
      exact HNX.out
    · gi_wp2_with fail
      exact ⟨⟨p2, x, rfl, decide_eq_false (fun e => hz (by rw [← HRC.out, e]; exact (cmpL_zero _ _).2 rfl)), ⟨a1, c1, HR.out.1.grow HB3.out⟩, HR.out.2⟩, Stay.of_below HB3.out⟩
  case call =>
    intro l2 nn J2 Jx2 A3 W3 hpar hJ3 hnn hA3 hst3
    have hb := HB.out
    have h0 : ∀ k, k < w.heap.size → A3 k := fun k hk => hA3 k ⟨by have := HSZ.out; omega, by have := HK0.out; omega⟩
    have hsw : Stay (fun k => k < w.heap.size) w W3 := (Stay.of_below BV3.out).trans (hst3.mono fun k hk => ⟨Nat.lt_of_lt_of_le hk HSZ.out, Nat.ne_of_lt (by have := HK0.out; omega)⟩)
    have q0 : B < v3.heap.size ∧ B ≠ k0 + 1 := ⟨by omega, by omega⟩
    have q1 : B + 1 < v3.heap.size ∧ B + 1 ≠ k0 + 1 := ⟨by omega, by omega⟩
    refine HC.out (fun _ => True) (fun l => l.length ≤ S.length) l2 nn A3 J2 Jx2 [] B (B + 1) a c n W3 (hsw.mono HT.out.lt) hpar (fun _ _ => trivial) hJ3 hnn (fun k hk => h0 k (HT.out.lt k hk)) (hA3 _ q0) (hA3 _ q1) ?_ ?_ HN.out ((HK.out.all.stay hsw).mono fun k _ hk => h0 k hk) (fun q hq => by simpa using hq.length_le)
    · rw [hst3.cell q0.1 q0]; exact hb.2.1
    · rw [hst3.cell q1.1 q1]; exact hb.2.2
  case done =>
    intro D A2 W2 hI hA hst hD hDn hDb
    obtain ⟨m, hm0⟩ : ∃ m, [] ++ S = m := ⟨_, rfl⟩
    rw [hm0] at hI
    obtain ⟨⟨a1, c1, hR⟩, hall⟩ := hI
    have hm : S.filter (keyIs key) = m := by
      rw [← hm0, List.nil_append]
      exact List.filter_eq_self.2 fun y hy => hall y (by rw [← hm0]; exact hy)
    clear hm0
    have HM := Lib.hid (find_end hR HSR.out.1 hm)
    have HR := Lib.hid hR
    have HMK : Hid (Marks A2 v3.heap.size W2 [{ target := .collected D, args := #[] }] [D]) := Lib.hid ((Marks.nil _ _ _).cons hD hDn hDb (by simp))
    obtain ⟨mm, hmm⟩ : ∃ mm, m.length = mm := ⟨_, rfl⟩
    have hbox := hR.box
    rw [hmm] at hbox
    have d0 := hbox.at' 0 _ rfl
    have dlt := hbox.lt
    have HMM := Lib.hid hmm
    clear hA hst hD hDn hDb hR hm hmm hbox hall
    try gi_wp2_with fail
    go_wp2_with fail
    refine HMK.out.leaves fun W' htt hss => ⟨.slice a1 mm c1, by simp [results, Try.results23, go_sem], ?_⟩
    obtain ⟨h1, h2⟩ := find_end (HR.out.own HSZ.out htt (fun k => ⟨.inl, fun hx => hx.elim id (fun hx => by omega)⟩)) HSR.out.1 HM.out.2.2
    exact ⟨a1, c1, by rw [← HMM.out, h2.1], h1, HR.out.own HSZ.out htt (fun k => ⟨.inl, fun hx => hx.elim id (fun hx => by omega)⟩) |>.bel⟩
  case stop =>
    intro D A2 W2 q2 hq hI hA hst hD hDn hDb
    obtain ⟨m, x, he, hx, ⟨a1, c1, hR⟩, hall⟩ := hI
    have hm : S.filter (keyIs key) = m := filter_stop HSR.out.2.2 (by rw [← he]; exact hq) hall hx
    clear he hx hq
    have HM := Lib.hid (find_end hR HSR.out.1 hm)
    have HR := Lib.hid hR
    have HMK : Hid (Marks A2 v3.heap.size W2 [{ target := .collected D, args := #[] }] [D]) := Lib.hid ((Marks.nil _ _ _).cons hD hDn hDb (by simp))
    obtain ⟨mm, hmm⟩ : ∃ mm, m.length = mm := ⟨_, rfl⟩
    have hbox := hR.box
    rw [hmm] at hbox
    have d0 := hbox.at' 0 _ rfl
    have dlt := hbox.lt
    have HMM := Lib.hid hmm
    clear hA hst hD hDn hDb hR hm hmm hbox hall
    try gi_wp2_with fail
    go_wp2_with fail
    refine HMK.out.leaves fun W' htt hss => ⟨.slice a1 mm c1, by simp [results, Try.results23, go_sem], ?_⟩
    obtain ⟨h1, h2⟩ := find_end (HR.out.own HSZ.out htt (fun k => ⟨.inl, fun hx => hx.elim id (fun hx => by omega)⟩)) HSR.out.1 HM.out.2.2
    exact ⟨a1, c1, by rw [← HMM.out, h2.1], h1, HR.out.own HSZ.out htt (fun k => ⟨.inl, fun hx => hx.elim id (fun hx => by omega)⟩) |>.bel⟩
end
end Go.Proofs.Ytfikaccgpjiedaa

/-
  formed: walked.
-/
namespace Go.Proofs.Ytfikaccgpjiedaa
open Go.RowKit Go.Lib

/-- A loop that changes nothing that was there: all that its call had, but for block E, may be leant on. -/
def QuietI {α : Type} (v3 : World) (E : Nat) (A : Nat → Prop) (_ : List α) (W : World) : Prop := Below v3.heap.size v3 W ∧ (∀ k, A k → k < W.heap.size) ∧ ¬ A E
theorem quiet_own {α : Type} (v3 : World) {E : Nat} (hE : E < v3.heap.size) : OwnP v3.heap.size (QuietI (α := α) v3 E) :=
  ⟨fun h => h.2.1, fun {A A' p W W'} h ht hA => ⟨h.1.trans (ht.below (fun k hk => hk.2) h.1.size), fun k hk => by
      have := ht.size
      rcases (hA k).1 hk with hk | hk
      · have := h.2.1 k hk; omega
      · exact hk.2, fun hk => ((hA E).1 hk).elim h.2.2 (fun hx => by have := h.1.size; omega)⟩,
    fun h hb => ⟨h.1.trans (hb.mono h.1.size), fun k hk => Nat.lt_of_lt_of_le (h.2.1 k hk) hb.size, h.2.2⟩⟩
theorem encN_two (x : DN) : (encN x).size = (#[14, 15] : Array Tmp).size := rfl
theorem never_own {α : Type} (n : Nat) : OwnP n (fun (_ : Nat → Prop) (_ : List α) (_ : World) => False) := ⟨fun h => h.elim, fun h => h.elim, fun h => h.elim⟩

section
attribute [local go_sem] Oper.semAt_some
set_option maxRecDepth 100000 in
set_option maxHeartbeats 4000000 in
theorem formed_is (w : World) (g : Nat) (L : List Ent) (F : Nat → Prop) (hL : L.length ≤ 2000) (ht : Top w g L F) :
    Calls Try.prog 31 #[nodeV g] w fun e w' => e = .returned (.bool true) ∧ Below w.heap.size w w' := by
  have mixed : Try.prog.follows Departure.mixedOrders = true := by kernel_rfl
  have hT := fun W (hb : Below w.heap.size w W) => ht.stay (Stay.of_below hb)
  obtain ⟨r, hl, hr⟩ := ht.lit
  obtain ⟨q, rfl⟩ := hr.ptr
  have b1 := Below.allocs w (.cells #[.pointer (some ⟨g, 0, none⟩)] 25)
  have b2 := Below.allocs (w.alloc (.cells #[.pointer (some ⟨g, 0, none⟩)] 25)) (.cells #[.bool false] 4)
  have l1 := (Lit.new w [.pointer (some ⟨g, 0, none⟩)] 25 (by intro v hv; simp at hv; subst hv; rfl)).below b2
  have l2 := Lit.new (w.alloc (.cells #[.pointer (some ⟨g, 0, none⟩)] 25)) [.bool false] 4 (by intro v hv; simp at hv; subst hv; rfl)
  rw [World.size_alloc] at l2
  obtain ⟨V, hV⟩ : ∃ V, (w.alloc (.cells #[.pointer (some ⟨g, 0, none⟩)] 25)).alloc (.cells #[.bool false] 4) = V := ⟨_, rfl⟩
  obtain ⟨k0, hk0⟩ : ∃ k0, w.heap.size = k0 := ⟨_, rfl⟩
  have bV := below_tr b1 b2
  rw [show ([Value.pointer (some ⟨g, 0, none⟩)] : List Value).toArray = (#[.pointer (some ⟨g, 0, none⟩)] : Array Value) from rfl] at l1
  rw [show ([Value.bool false] : List Value).toArray = (#[.bool false] : Array Value) from rfl] at l2
  rw [hV] at bV l1 l2
  rw [hk0] at l1 l2
  obtain ⟨S, H, hH, hheight, hgood, hcall⟩ := root_nodes (hr.stay (Stay.of_below bV)) hL
  have hhc := hheight _ (hl.below bV)
  have HV := Lib.hid hV
  have HK0 := Lib.hid hk0
  have HBV := Lib.hid bV
  have HL1 := Lib.hid l1
  have HL2 := Lib.hid l2
  have HLG := Lib.hid (hl.below bV)
  have HC := Lib.hid hcall
  have HGD0 := Lib.hid hgood
  have HHC := Lib.hid hhc
  have HF := Lib.hid ht.lt
  have glt := hl.lt
  have d0 := l1.at' 0 _ rfl
  have d1 := l1.lt
  clear hl hr ht hT hgood hcall hheight hhc b1 b2 l1 l2 hV bV hk0
  unfold nodeV
  refine (callsIn_wide (n := 1)).1 ?_
  refine callsIn_of_wp_marks Try.func31 rfl trivial ?_ rfl
  simp only [Try.ntmps31, List.size_toArray, List.length_cons, List.length_nil, Nat.reduceAdd, Nat.reduceSub, Array.replicate_succ, Array.replicate_zero, List.push_toArray, List.append_toArray, List.nil_append, List.cons_append]
  refine wpIn_wide.2 ?_
  go_upto_region 1 with (fail)
  rw [HV.out]
  simp only [HK0.out]
  go_wp2_with fail
  refine HHC.out.mono ?_
  rintro e v1 ⟨rfl, hb1⟩
  have b3 := Below.allocs v1 (.cells #[.int .i64 (H : Int)] 3)
  have l3 := Lit.new v1 [.int .i64 (H : Int)] 3 (by intro v hv; simp at hv; subst hv; rfl)
  rw [show ([Value.int .i64 (H : Int)] : List Value).toArray = (#[.int .i64 (H : Int)] : Array Value) from rfl] at l3
  obtain ⟨v2, hv2⟩ : ∃ v2, v1.alloc (.cells #[.int .i64 (H : Int)] 3) = v2 := ⟨_, rfl⟩
  rw [hv2] at b3 l3
  obtain ⟨E, hE⟩ : ∃ E, v1.heap.size = E := ⟨_, rfl⟩
  have bE := hb1.size
  have bV2 := below_tr hb1 b3
  rw [hE] at l3
  have HV2 := Lib.hid hv2
  have HE := Lib.hid hE
  have HL3 := Lib.hid l3
  have HBV2 := Lib.hid bV2
  have HND := Lib.hid (nodes_is q 1 v2)
  clear d0 d1 glt
  have d0 : v2.cell? ⟨k0, 0, none⟩ = some (.pointer (some ⟨g, 0, none⟩)) := (HL1.out.below bV2).at' 0 _ rfl
  have d1 := (HL1.out.below bV2).lt
  have d2 : v2.cell? ⟨g, 0, none⟩ = some (.pointer q) := (HLG.out.below bV2).two.1
  have d3 := (HLG.out.below bV2).lt
  clear hb1 b3 l3 hv2 bE bV2 hE
  go_upto_region 2 with (fail)
  simp only [HE.out]
  rw [HV2.out]
  go_wp2_with fail
  refine HND.out.mono ?_
  rintro e v3 ⟨B1, B2, rfl, hv3, hB1s, hB2s, hB1, hB2⟩
  clear d0 d1 d2 d3
  have HB3 := Lib.hid (below_tr HBV2.out hv3)
  have HL33 : Hid (v3.cell? ⟨E, 0, none⟩ = some (.int .i64 (H : Int))) := Lib.hid ((HL3.out.below hv3).at' 0 _ rfl)
  have hbl1 := World.block_lt_of_cell? _ _ hB1
  have hbl2 := World.block_lt_of_cell? _ _ hB2
  have hk1 : k0 + 1 < V.heap.size := HL2.out.lt
  have hs2 := HBV2.out.size
  have HBB : Hid ((B1 ≠ k0 + 1 ∧ B1 < v3.heap.size) ∧ (B2 ≠ k0 + 1 ∧ B2 < v3.heap.size) ∧ v3.cell? ⟨B1, 0, none⟩ = some (.pointer q) ∧ v3.cell? ⟨B2, 0, none⟩ = some (.int .i64 1)) := Lib.hid ⟨⟨by omega, hbl1⟩, ⟨by omega, hbl2⟩, hB1, hB2⟩
  have hk3 : k0 + 1 < v3.heap.size := by have := hv3.size; omega
  have HK3 := Lib.hid hk3
  clear hv3 hB1s hB2s hB1 hB2 hbl1 hbl2 hk1 hs2
  go_wp2_with fail
  refine (wpIn_wide (n := 1)).1 ?_
  refine wpIn_range (tellsN fun x => ∃ rg, Value.pointer q = .pointer (some ⟨rg, 0, none⟩) ∧ F rg ∧ (∃ v, V.cell? ⟨rg, 0, none⟩ = some v) ∧ (∀ j, V.frozen? ⟨rg, j, none⟩ = false) ∧ GoodN H rg x) (fun _ => True) (QuietI v3 (k0 + 1)) (fun _ _ _ => False) (quiet_own v3 hk3) (never_own _) (fun k => k < v3.heap.size ∧ k ≠ k0 + 1) [] S ?start rfl nodes_enters encN_two (fun _ W => W) (fun x W => Below.refl _ _) .ret .ret (.inl ⟨rfl, rfl⟩) ?round ?call ?done ?stop
  case start => exact ⟨Below.refl _ _, fun k hk => hk.1, fun hk => hk.2 rfl⟩
  case stop => intro D A W q2 _ hx; exact hx.elim
  case call =>
    intro l2 nn J2 Jx2 A3 W3 hpar hJ3 hnn hA3 hst3
    obtain ⟨⟨n1, lt1⟩, ⟨n2, lt2⟩, hb1, hb2⟩ := HBB.out
    have hF3 : ∀ k, F k → k < v3.heap.size ∧ k ≠ k0 + 1 := fun k hk => by
      have h1 := HF.out k hk
      have h2 := HB3.out.size
      have h3 := HBV.out.size
      have h4 := HK0.out
      exact ⟨by omega, by omega⟩
    refine HC.out _ (fun _ => True) l2 nn A3 J2 Jx2 [] B1 B2 W3 ((Stay.of_below HB3.out).trans (hst3.mono hF3)) hpar HGD0.out hJ3 hnn (fun k hk => hA3 k (hF3 k hk)) (hA3 _ ⟨lt1, n1⟩) (hA3 _ ⟨lt2, n2⟩) ?_ ?_ (fun _ _ => trivial)
    · rw [hst3.cell lt1 ⟨lt1, n1⟩]; exact hb1
    · rw [hst3.cell lt2 ⟨lt2, n2⟩]; exact hb2
  case round =>
    rintro l2 ⟨xd, xg, xm, xk⟩ Wl hl2 hl2'
    simp only [encN]
    gi_wp2
    refine ⟨rfl, fun A3 p2 W2 hI2 _ hT2 hpl hA3 hst2 hAl hk _ => ?_⟩
    obtain ⟨hAx, ⟨ea, ec, ca, cc, x0, x1⟩, fx, rg, hq, hFr, ⟨v0, hc0⟩, hfr, hgd⟩ := hT2
    cases hq
    simp only at x0 x1 fx
    have bW : Below V.heap.size V W2 := below_tr HB3.out hI2.1
    have rlt := World.block_lt_of_cell? _ _ hc0
    have c0 : W2.cell? ⟨rg, 0, none⟩ = some v0 := by rw [bW.cell (p := ⟨rg, 0, none⟩) rlt]; exact hc0
    have fr : ∀ j, W2.frozen? ⟨rg, j, none⟩ = false := fun j => by rw [bW.frozen (p := ⟨rg, j, none⟩) rlt]; exact hfr j
    obtain ⟨z, hz⟩ : ∃ z, decide (xg = rg) = z := ⟨_, rfl⟩
    have heq := eql_nodes hz x0 c0 fx fr
    have d0 : W2.cell? ⟨k0, 0, none⟩ = some (.pointer (some ⟨g, 0, none⟩)) := (HL1.out.below bW).at' 0 _ rfl
    have d2 : W2.cell? ⟨g, 0, none⟩ = some (.pointer (some ⟨rg, 0, none⟩)) := (HLG.out.below bW).two.1
    have d4 : W2.cell? ⟨E, 0, none⟩ = some (.int .i64 (H : Int)) := by rw [hI2.1.cell (p := ⟨E, 0, none⟩) (World.block_lt_of_cell? _ _ HL33.out)]; exact HL33.out
    have hrx : ∀ w', Below W2.heap.size W2 w' → w'.cell? ⟨E, 0, none⟩ = some (.int .i64 (H : Int)) ∧ w'.cell? ⟨xg, 0, none⟩ = some (.slice ea xm ec) ∧ w'.cell? ⟨xg, 1, none⟩ = some (.slice ca xk cc) := fun w' hb =>
      ⟨by rw [hb.cell (p := ⟨E, 0, none⟩) (World.block_lt_of_cell? _ _ d4)]; exact d4, by rw [hb.cell (p := ⟨xg, 0, none⟩) (World.block_lt_of_cell? _ _ x0)]; exact x0, by rw [hb.cell (p := ⟨xg, 1, none⟩) (World.block_lt_of_cell? _ _ x1)]; exact x1⟩
    have HRX := Lib.hid hrx
    have HI2 := Lib.hid hI2
    have HGD := Lib.hid hgd
    have glt := World.block_lt_of_cell? _ _ d2
    have klt := World.block_lt_of_cell? _ _ d0
    have xlt := World.block_lt_of_cell? _ _ x0
    have elt := World.block_lt_of_cell? _ _ d4
    have h71 : ¬ (7 : Int) < (xm : Int) := by have := hgd.2.1; simp only at this; omega
    have h11 : ¬ (xm : Int) < 1 := by have := hgd.1; simp only at this; omega
    have hz2 : z = false → ¬ (xm : Int) < 3 := fun hzf => by
      have := hgd.2.2.1 (by rw [← hz] at hzf; exact of_decide_eq_false hzf)
      simp only at this
      omega
    have HZ2 := Lib.hid hz2
    have HQ := Lib.hid (And.intro (Below.refl W2.heap.size W2) hk)
    clear hI2 hpl hA3 hst2 hAl hk hgd hrx hz hz2 bW rlt c0 fr fx hc0 hfr hAx hFr
    have hend : ∀ w4, Below W2.heap.size W2 w4 → QuietI v3 (k0 + 1) A3 (p2 ++ [(⟨xd, xg, xm, xk⟩ : DN)]) w4 ∧ Stay A3 W2 w4 := fun w4 hb => ⟨(quiet_own v3 HK3.out).grow HI2.out hb, Stay.of_below hb⟩
    have HEND := Lib.hid hend
    clear hend
    cases z with
    | false =>
      have h31 := HZ2.out rfl
      by_cases hk0 : xk = 0
      · have hkz : decide (xk = 0) = true := decide_eq_true hk0
        have HZ := Lib.hid hkz
        obtain rfl : xd = (H : Int) := HGD.out.2.2.2.1.1 hk0
        clear hkz hk0
        gi_wp2_with fail
        clear heq d0 d2 d4 x0 x1 glt klt xlt elt h71 h11 h31
        have hdr10 := below_drw W2
        try simp only [List.append_eq, List.cons_append, List.nil_append]
        refine RX.wpIn_region_plan (r := some l2) (fun w w' => Below w.heap.size w w') [.it (.pointer (some ⟨xg, 0, none⟩)), .it (.bool true), .it (.bool true), .it (.int .i64 (H : Int)), .it (.int .i64 (H : Int)), .it (.bool false), .it (.bool false), .it (.bool false), .it (.pointer (some ⟨xg, 0, none⟩)), .it (.bool true), .it (.bool false), .it (.bool false), .it undef, .it undef, .it undef, .it undef, .it undef, .it undef, .it undef, .it undef, .it undef, .it undef, .it undef, .it undef, .it (.bool false), .it (.bool false)] (by kernel_rfl) (by kernel_rfl) (by kernel_rfl) (fun hlo => ?_) (fun _ => Below.refl _ _) (fun _ _ _ => below_tr) ?_
        · obtain ⟨aa, ww, hh⟩ := hlo
          rcases hh with ⟨hh, _⟩ | ⟨hh, _⟩ <;> cases hh
        refine RX.seqP_value (fun _ => Below.refl _ _) _ (by first | rfl | simp) (fun w' hw' hctx => ?_) ?_
        · go_simp
          try first | with_reducible rfl | simp
        simp only [Act.put, List.setIfInBounds_toArray, List.set_cons_zero, List.set_cons_succ]
        refine RX.seqP_call (40) #[.pointer (some ⟨xg, 0, none⟩)] (.bool true) (by first | rfl | simp) (fun w' hw' hctx => ?_) (fun w' hw' hctx => leaf_is xg xk cc ca true HZ.out w' (HRX.out w' (below_tr hdr10 hw')).2.2) ?_
        · go_simp
        simp only [Act.put, List.setIfInBounds_toArray, List.set_cons_zero, List.set_cons_succ]
        refine RX.seqP_value (fun _ => Below.refl _ _) _ (by first | rfl | simp) (fun w' hw' hctx => ?_) ?_
        · go_simp
          try first | with_reducible rfl | simp
        simp only [Act.put, List.setIfInBounds_toArray, List.set_cons_zero, List.set_cons_succ]
        refine RX.seqP_value (fun _ => Below.refl _ _) _ (by first | rfl | simp) (fun w' hw' hctx => ?_) ?_
        · go_simp
          try first | with_reducible rfl | simp
        simp only [Act.put, List.setIfInBounds_toArray, List.set_cons_zero, List.set_cons_succ]
        refine RX.seqP_value (fun _ => Below.refl _ _) _ (by first | rfl | simp) (fun w' hw' hctx => ?_) ?_
        · obtain ⟨j0, j1, j2⟩ := HRX.out w' (below_tr hdr10 hw')
          go_simp
          try first | with_reducible rfl | simp
        simp only [Act.put, List.setIfInBounds_toArray, List.set_cons_zero, List.set_cons_succ]
        refine RX.seqP_value (fun _ => Below.refl _ _) _ (by first | rfl | simp) (fun w' hw' hctx => ?_) ?_
        · go_simp
          try first | with_reducible rfl | simp
        simp only [Act.put, List.setIfInBounds_toArray, List.set_cons_zero, List.set_cons_succ]
        refine RX.seqP_value (fun _ => Below.refl _ _) _ (by first | rfl | simp) (fun w' hw' hctx => ?_) ?_
        · go_simp
          try first | with_reducible rfl | simp
        simp only [Act.put, List.setIfInBounds_toArray, List.set_cons_zero, List.set_cons_succ]
        refine RX.seqP_value (fun _ => Below.refl _ _) _ (by first | rfl | simp) (fun w' hw' hctx => ?_) ?_
        · go_simp
          try first | with_reducible rfl | simp
        simp only [Act.put, List.setIfInBounds_toArray, List.set_cons_zero, List.set_cons_succ]
        refine RX.seqP_value (fun _ => Below.refl _ _) _ (by first | rfl | simp) (fun w' hw' hctx => ?_) ?_
        · go_simp
          try first | with_reducible rfl | simp
        simp only [Act.put, List.setIfInBounds_toArray, List.set_cons_zero, List.set_cons_succ]
        refine RX.seqP_call (40) #[.pointer (some ⟨xg, 0, none⟩)] (.bool true) (by first | rfl | simp) (fun w' hw' hctx => ?_) (fun w' hw' hctx => leaf_is xg xk cc ca true HZ.out w' (HRX.out w' (below_tr hdr10 hw')).2.2) ?_
        · go_simp
        simp only [Act.put, List.setIfInBounds_toArray, List.set_cons_zero, List.set_cons_succ]
        refine RX.seqP_value (fun _ => Below.refl _ _) _ (by first | rfl | simp) (fun w' hw' hctx => ?_) ?_
        · go_simp
          try first | with_reducible rfl | simp
        simp only [Act.put, List.setIfInBounds_toArray, List.set_cons_zero, List.set_cons_succ]
        refine RX.seqP_value (fun _ => Below.refl _ _) _ (by first | rfl | simp) (fun w' hw' hctx => ?_) ?_
        · go_simp
          try first | with_reducible rfl | simp
        simp only [Act.put, List.setIfInBounds_toArray, List.set_cons_zero, List.set_cons_succ]
        refine RX.seqP_skip (by first | rfl | simp) ?_
        simp only [Act.put, List.setIfInBounds_toArray, List.set_cons_zero, List.set_cons_succ]
        refine RX.seqP_skip (by first | rfl | simp) ?_
        simp only [Act.put, List.setIfInBounds_toArray, List.set_cons_zero, List.set_cons_succ]
        refine RX.seqP_skip (by first | rfl | simp) ?_
        simp only [Act.put, List.setIfInBounds_toArray, List.set_cons_zero, List.set_cons_succ]
        refine RX.seqP_skip (by first | rfl | simp) ?_
        simp only [Act.put, List.setIfInBounds_toArray, List.set_cons_zero, List.set_cons_succ]
        refine RX.seqP_skip (by first | rfl | simp) ?_
        simp only [Act.put, List.setIfInBounds_toArray, List.set_cons_zero, List.set_cons_succ]
        refine RX.seqP_skip (by first | rfl | simp) ?_
        simp only [Act.put, List.setIfInBounds_toArray, List.set_cons_zero, List.set_cons_succ]
        refine RX.seqP_skip (by first | rfl | simp) ?_
        simp only [Act.put, List.setIfInBounds_toArray, List.set_cons_zero, List.set_cons_succ]
        refine RX.seqP_skip (by first | rfl | simp) ?_
        simp only [Act.put, List.setIfInBounds_toArray, List.set_cons_zero, List.set_cons_succ]
        refine RX.seqP_skip (by first | rfl | simp) ?_
        simp only [Act.put, List.setIfInBounds_toArray, List.set_cons_zero, List.set_cons_succ]
        refine RX.seqP_skip (by first | rfl | simp) ?_
        simp only [Act.put, List.setIfInBounds_toArray, List.set_cons_zero, List.set_cons_succ]
        refine RX.seqP_skip (by first | rfl | simp) ?_
        simp only [Act.put, List.setIfInBounds_toArray, List.set_cons_zero, List.set_cons_succ]
        refine RX.seqP_skip (by first | rfl | simp) ?_
        simp only [Act.put, List.setIfInBounds_toArray, List.set_cons_zero, List.set_cons_succ]
        refine RX.seqP_value (fun _ => Below.refl _ _) _ (by first | rfl | simp) (fun w' hw' hctx => ?_) ?_
        · go_simp
          try first | with_reducible rfl | simp
        simp only [Act.put, List.setIfInBounds_toArray, List.set_cons_zero, List.set_cons_succ]
        refine RX.seqP_value (fun _ => Below.refl _ _) _ (by first | rfl | simp) (fun w' hw' hctx => ?_) ?_
        · go_simp
          try first | with_reducible rfl | simp
        simp only [Act.put, List.setIfInBounds_toArray, List.set_cons_zero, List.set_cons_succ]
        refine RX.seqP_nil (fun w4 hR hctx _ => ?_)
        have hv4 := below_tr hdr10 hR
        clear hctx hR
        gi_wp2_with fail
        exact HEND.out _ hv4
      · have hkz : decide (xk = 0) = false := decide_eq_false hk0
        have HZ := Lib.hid hkz
        have hkm : (xk : Int) = (xm : Int) + 1 := by have h1 : xk = xm + 1 := HGD.out.2.2.2.2 hk0; omega
        have HKM := Lib.hid hkm
        have hm7 : xm ≤ 7 := HGD.out.2.1
        clear hkz hk0 hkm
        gi_wp2_with fail
        clear heq d0 d2 d4 x0 x1 glt klt xlt elt h71 h11 h31
        have hdr10 := below_drw W2
        try simp only [List.append_eq, List.cons_append, List.nil_append]
        refine RX.wpIn_region_plan (r := some l2) (fun w w' => Below w.heap.size w w') [.it (.pointer (some ⟨xg, 0, none⟩)), .it (.bool false), .it (.bool false), .it undef, .it undef, .it undef, .it (.bool false), .it (.bool false), .it (.pointer (some ⟨xg, 0, none⟩)), .it (.bool false), .it (.bool true), .it (.bool true), .it (.pointer (some ⟨xg, 0, none⟩)), .it (.pointer (some ⟨xg, 0, none⟩)), .it (.pointer (some ⟨xg, 1, none⟩)), .it (.slice ca xk cc), .it (.int .i64 (xk : Int)), .it (.pointer (some ⟨xg, 0, none⟩)), .it (.pointer (some ⟨xg, 0, none⟩)), .it (.pointer (some ⟨xg, 0, none⟩)), .it (.slice ea xm ec), .it (.int .i64 (xm : Int)), .it (.int .i64 ((xm : Int) + 1)), .it (.bool false), .it (.bool false), .it (.bool false)] (by kernel_rfl) (by kernel_rfl) (by kernel_rfl) (fun hlo => ?_) (fun _ => Below.refl _ _) (fun _ _ _ => below_tr) ?_
        · obtain ⟨aa, ww, hh⟩ := hlo
          rcases hh with ⟨hh, _⟩ | ⟨hh, _⟩ <;> cases hh
        refine RX.seqP_value (fun _ => Below.refl _ _) _ (by first | rfl | simp) (fun w' hw' hctx => ?_) ?_
        · go_simp
          try first | with_reducible rfl | simp
        simp only [Act.put, List.setIfInBounds_toArray, List.set_cons_zero, List.set_cons_succ]
        refine RX.seqP_call (40) #[.pointer (some ⟨xg, 0, none⟩)] (.bool false) (by first | rfl | simp) (fun w' hw' hctx => ?_) (fun w' hw' hctx => leaf_is xg xk cc ca false HZ.out w' (HRX.out w' (below_tr hdr10 hw')).2.2) ?_
        · go_simp
        simp only [Act.put, List.setIfInBounds_toArray, List.set_cons_zero, List.set_cons_succ]
        refine RX.seqP_value (fun _ => Below.refl _ _) _ (by first | rfl | simp) (fun w' hw' hctx => ?_) ?_
        · go_simp
          try first | with_reducible rfl | simp
        simp only [Act.put, List.setIfInBounds_toArray, List.set_cons_zero, List.set_cons_succ]
        refine RX.seqP_skip (by first | rfl | simp) ?_
        simp only [Act.put, List.setIfInBounds_toArray, List.set_cons_zero, List.set_cons_succ]
        refine RX.seqP_skip (by first | rfl | simp) ?_
        simp only [Act.put, List.setIfInBounds_toArray, List.set_cons_zero, List.set_cons_succ]
        refine RX.seqP_skip (by first | rfl | simp) ?_
        simp only [Act.put, List.setIfInBounds_toArray, List.set_cons_zero, List.set_cons_succ]
        refine RX.seqP_value (fun _ => Below.refl _ _) _ (by first | rfl | simp) (fun w' hw' hctx => ?_) ?_
        · go_simp
          try first | with_reducible rfl | simp
        simp only [Act.put, List.setIfInBounds_toArray, List.set_cons_zero, List.set_cons_succ]
        refine RX.seqP_value (fun _ => Below.refl _ _) _ (by first | rfl | simp) (fun w' hw' hctx => ?_) ?_
        · go_simp
          try first | with_reducible rfl | simp
        simp only [Act.put, List.setIfInBounds_toArray, List.set_cons_zero, List.set_cons_succ]
        refine RX.seqP_value (fun _ => Below.refl _ _) _ (by first | rfl | simp) (fun w' hw' hctx => ?_) ?_
        · go_simp
          try first | with_reducible rfl | simp
        simp only [Act.put, List.setIfInBounds_toArray, List.set_cons_zero, List.set_cons_succ]
        refine RX.seqP_call (40) #[.pointer (some ⟨xg, 0, none⟩)] (.bool false) (by first | rfl | simp) (fun w' hw' hctx => ?_) (fun w' hw' hctx => leaf_is xg xk cc ca false HZ.out w' (HRX.out w' (below_tr hdr10 hw')).2.2) ?_
        · go_simp
        simp only [Act.put, List.setIfInBounds_toArray, List.set_cons_zero, List.set_cons_succ]
        refine RX.seqP_value (fun _ => Below.refl _ _) _ (by first | rfl | simp) (fun w' hw' hctx => ?_) ?_
        · go_simp
          try first | with_reducible rfl | simp
        simp only [Act.put, List.setIfInBounds_toArray, List.set_cons_zero, List.set_cons_succ]
        refine RX.seqP_value (fun _ => Below.refl _ _) _ (by first | rfl | simp) (fun w' hw' hctx => ?_) ?_
        · go_simp
          try first | with_reducible rfl | simp
        simp only [Act.put, List.setIfInBounds_toArray, List.set_cons_zero, List.set_cons_succ]
        refine RX.seqP_value (fun _ => Below.refl _ _) _ (by first | rfl | simp) (fun w' hw' hctx => ?_) ?_
        · go_simp
          try first | with_reducible rfl | simp
        simp only [Act.put, List.setIfInBounds_toArray, List.set_cons_zero, List.set_cons_succ]
        refine RX.seqP_value (fun _ => Below.refl _ _) _ (by first | rfl | simp) (fun w' hw' hctx => ?_) ?_
        · go_simp
          try first | with_reducible rfl | simp
        simp only [Act.put, List.setIfInBounds_toArray, List.set_cons_zero, List.set_cons_succ]
        refine RX.seqP_value (fun _ => Below.refl _ _) _ (by first | rfl | simp) (fun w' hw' hctx => ?_) ?_
        · go_simp
          try first | with_reducible rfl | simp
        simp only [Act.put, List.setIfInBounds_toArray, List.set_cons_zero, List.set_cons_succ]
        refine RX.seqP_value (fun _ => Below.refl _ _) _ (by first | rfl | simp) (fun w' hw' hctx => ?_) ?_
        · obtain ⟨j0, j1, j2⟩ := HRX.out w' (below_tr hdr10 hw')
          go_simp
          try first | with_reducible rfl | simp
        simp only [Act.put, List.setIfInBounds_toArray, List.set_cons_zero, List.set_cons_succ]
        refine RX.seqP_value (fun _ => Below.refl _ _) _ (by first | rfl | simp) (fun w' hw' hctx => ?_) ?_
        · go_simp
          try first | with_reducible rfl | simp
        simp only [Act.put, List.setIfInBounds_toArray, List.set_cons_zero, List.set_cons_succ]
        refine RX.seqP_value (fun _ => Below.refl _ _) _ (by first | rfl | simp) (fun w' hw' hctx => ?_) ?_
        · go_simp
          try first | with_reducible rfl | simp
        simp only [Act.put, List.setIfInBounds_toArray, List.set_cons_zero, List.set_cons_succ]
        refine RX.seqP_value (fun _ => Below.refl _ _) _ (by first | rfl | simp) (fun w' hw' hctx => ?_) ?_
        · go_simp
          try first | with_reducible rfl | simp
        simp only [Act.put, List.setIfInBounds_toArray, List.set_cons_zero, List.set_cons_succ]
        refine RX.seqP_value (fun _ => Below.refl _ _) _ (by first | rfl | simp) (fun w' hw' hctx => ?_) ?_
        · go_simp
          try first | with_reducible rfl | simp
        simp only [Act.put, List.setIfInBounds_toArray, List.set_cons_zero, List.set_cons_succ]
        refine RX.seqP_value (fun _ => Below.refl _ _) _ (by first | rfl | simp) (fun w' hw' hctx => ?_) ?_
        · obtain ⟨j0, j1, j2⟩ := HRX.out w' (below_tr hdr10 hw')
          go_simp
          try first | with_reducible rfl | simp
        simp only [Act.put, List.setIfInBounds_toArray, List.set_cons_zero, List.set_cons_succ]
        refine RX.seqP_value (fun _ => Below.refl _ _) _ (by first | rfl | simp) (fun w' hw' hctx => ?_) ?_
        · go_simp
          try first | with_reducible rfl | simp
        simp only [Act.put, List.setIfInBounds_toArray, List.set_cons_zero, List.set_cons_succ]
        refine RX.seqP_value (fun _ => Below.refl _ _) _ (by first | rfl | simp) (fun w' hw' hctx => ?_) ?_
        · have hm7 := HGD.out.2.1
          go_simp
          try first | with_reducible rfl | simp
          exact wrapI (by unfold I64; simp only at hm7; omega)
        simp only [Act.put, List.setIfInBounds_toArray, List.set_cons_zero, List.set_cons_succ]
        refine RX.seqP_value (fun _ => Below.refl _ _) _ (by first | rfl | simp) (fun w' hw' hctx => ?_) ?_
        · have hkm := HKM.out
          go_simp
          try first | with_reducible rfl | simp
        simp only [Act.put, List.setIfInBounds_toArray, List.set_cons_zero, List.set_cons_succ]
        refine RX.seqP_value (fun _ => Below.refl _ _) _ (by first | rfl | simp) (fun w' hw' hctx => ?_) ?_
        · go_simp
          try first | with_reducible rfl | simp
        simp only [Act.put, List.setIfInBounds_toArray, List.set_cons_zero, List.set_cons_succ]
        refine RX.seqP_value (fun _ => Below.refl _ _) _ (by first | rfl | simp) (fun w' hw' hctx => ?_) ?_
        · go_simp
          try first | with_reducible rfl | simp
        simp only [Act.put, List.setIfInBounds_toArray, List.set_cons_zero, List.set_cons_succ]
        refine RX.seqP_nil (fun w4 hR hctx _ => ?_)
        have hv4 := below_tr hdr10 hR
        clear hctx hR
        gi_wp2_with fail
        exact HEND.out _ hv4
    | true =>
      have h31 := h11
      by_cases hk0 : xk = 0
      · have hkz : decide (xk = 0) = true := decide_eq_true hk0
        have HZ := Lib.hid hkz
        obtain rfl : xd = (H : Int) := HGD.out.2.2.2.1.1 hk0
        clear hkz hk0
        gi_wp2_with fail
        clear heq d0 d2 d4 x0 x1 glt klt xlt elt h71 h11 h31
        have hdr10 := below_drw W2
        try simp only [List.append_eq, List.cons_append, List.nil_append]
        refine RX.wpIn_region_plan (r := some l2) (fun w w' => Below w.heap.size w w') [.it (.pointer (some ⟨xg, 0, none⟩)), .it (.bool true), .it (.bool true), .it (.int .i64 (H : Int)), .it (.int .i64 (H : Int)), .it (.bool false), .it (.bool false), .it (.bool false), .it (.pointer (some ⟨xg, 0, none⟩)), .it (.bool true), .it (.bool false), .it (.bool false), .it undef, .it undef, .it undef, .it undef, .it undef, .it undef, .it undef, .it undef, .it undef, .it undef, .it undef, .it undef, .it (.bool false), .it (.bool false)] (by kernel_rfl) (by kernel_rfl) (by kernel_rfl) (fun hlo => ?_) (fun _ => Below.refl _ _) (fun _ _ _ => below_tr) ?_
        · obtain ⟨aa, ww, hh⟩ := hlo
          rcases hh with ⟨hh, _⟩ | ⟨hh, _⟩ <;> cases hh
        refine RX.seqP_value (fun _ => Below.refl _ _) _ (by first | rfl | simp) (fun w' hw' hctx => ?_) ?_
        · go_simp
          try first | with_reducible rfl | simp
        simp only [Act.put, List.setIfInBounds_toArray, List.set_cons_zero, List.set_cons_succ]
        refine RX.seqP_call (40) #[.pointer (some ⟨xg, 0, none⟩)] (.bool true) (by first | rfl | simp) (fun w' hw' hctx => ?_) (fun w' hw' hctx => leaf_is xg xk cc ca true HZ.out w' (HRX.out w' (below_tr hdr10 hw')).2.2) ?_
        · go_simp
        simp only [Act.put, List.setIfInBounds_toArray, List.set_cons_zero, List.set_cons_succ]
        refine RX.seqP_value (fun _ => Below.refl _ _) _ (by first | rfl | simp) (fun w' hw' hctx => ?_) ?_
        · go_simp
          try first | with_reducible rfl | simp
        simp only [Act.put, List.setIfInBounds_toArray, List.set_cons_zero, List.set_cons_succ]
        refine RX.seqP_value (fun _ => Below.refl _ _) _ (by first | rfl | simp) (fun w' hw' hctx => ?_) ?_
        · go_simp
          try first | with_reducible rfl | simp
        simp only [Act.put, List.setIfInBounds_toArray, List.set_cons_zero, List.set_cons_succ]
        refine RX.seqP_value (fun _ => Below.refl _ _) _ (by first | rfl | simp) (fun w' hw' hctx => ?_) ?_
        · obtain ⟨j0, j1, j2⟩ := HRX.out w' (below_tr hdr10 hw')
          go_simp
          try first | with_reducible rfl | simp
        simp only [Act.put, List.setIfInBounds_toArray, List.set_cons_zero, List.set_cons_succ]
        refine RX.seqP_value (fun _ => Below.refl _ _) _ (by first | rfl | simp) (fun w' hw' hctx => ?_) ?_
        · go_simp
          try first | with_reducible rfl | simp
        simp only [Act.put, List.setIfInBounds_toArray, List.set_cons_zero, List.set_cons_succ]
        refine RX.seqP_value (fun _ => Below.refl _ _) _ (by first | rfl | simp) (fun w' hw' hctx => ?_) ?_
        · go_simp
          try first | with_reducible rfl | simp
        simp only [Act.put, List.setIfInBounds_toArray, List.set_cons_zero, List.set_cons_succ]
        refine RX.seqP_value (fun _ => Below.refl _ _) _ (by first | rfl | simp) (fun w' hw' hctx => ?_) ?_
        · go_simp
          try first | with_reducible rfl | simp
        simp only [Act.put, List.setIfInBounds_toArray, List.set_cons_zero, List.set_cons_succ]
        refine RX.seqP_value (fun _ => Below.refl _ _) _ (by first | rfl | simp) (fun w' hw' hctx => ?_) ?_
        · go_simp
          try first | with_reducible rfl | simp
        simp only [Act.put, List.setIfInBounds_toArray, List.set_cons_zero, List.set_cons_succ]
        refine RX.seqP_call (40) #[.pointer (some ⟨xg, 0, none⟩)] (.bool true) (by first | rfl | simp) (fun w' hw' hctx => ?_) (fun w' hw' hctx => leaf_is xg xk cc ca true HZ.out w' (HRX.out w' (below_tr hdr10 hw')).2.2) ?_
        · go_simp
        simp only [Act.put, List.setIfInBounds_toArray, List.set_cons_zero, List.set_cons_succ]
        refine RX.seqP_value (fun _ => Below.refl _ _) _ (by first | rfl | simp) (fun w' hw' hctx => ?_) ?_
        · go_simp
          try first | with_reducible rfl | simp
        simp only [Act.put, List.setIfInBounds_toArray, List.set_cons_zero, List.set_cons_succ]
        refine RX.seqP_value (fun _ => Below.refl _ _) _ (by first | rfl | simp) (fun w' hw' hctx => ?_) ?_
        · go_simp
          try first | with_reducible rfl | simp
        simp only [Act.put, List.setIfInBounds_toArray, List.set_cons_zero, List.set_cons_succ]
        refine RX.seqP_skip (by first | rfl | simp) ?_
        simp only [Act.put, List.setIfInBounds_toArray, List.set_cons_zero, List.set_cons_succ]
        refine RX.seqP_skip (by first | rfl | simp) ?_
        simp only [Act.put, List.setIfInBounds_toArray, List.set_cons_zero, List.set_cons_succ]
        refine RX.seqP_skip (by first | rfl | simp) ?_
        simp only [Act.put, List.setIfInBounds_toArray, List.set_cons_zero, List.set_cons_succ]
        refine RX.seqP_skip (by first | rfl | simp) ?_
        simp only [Act.put, List.setIfInBounds_toArray, List.set_cons_zero, List.set_cons_succ]
        refine RX.seqP_skip (by first | rfl | simp) ?_
        simp only [Act.put, List.setIfInBounds_toArray, List.set_cons_zero, List.set_cons_succ]
        refine RX.seqP_skip (by first | rfl | simp) ?_
        simp only [Act.put, List.setIfInBounds_toArray, List.set_cons_zero, List.set_cons_succ]
        refine RX.seqP_skip (by first | rfl | simp) ?_
        simp only [Act.put, List.setIfInBounds_toArray, List.set_cons_zero, List.set_cons_succ]
        refine RX.seqP_skip (by first | rfl | simp) ?_
        simp only [Act.put, List.setIfInBounds_toArray, List.set_cons_zero, List.set_cons_succ]
        refine RX.seqP_skip (by first | rfl | simp) ?_
        simp only [Act.put, List.setIfInBounds_toArray, List.set_cons_zero, List.set_cons_succ]
        refine RX.seqP_skip (by first | rfl | simp) ?_
        simp only [Act.put, List.setIfInBounds_toArray, List.set_cons_zero, List.set_cons_succ]
        refine RX.seqP_skip (by first | rfl | simp) ?_
        simp only [Act.put, List.setIfInBounds_toArray, List.set_cons_zero, List.set_cons_succ]
        refine RX.seqP_skip (by first | rfl | simp) ?_
        simp only [Act.put, List.setIfInBounds_toArray, List.set_cons_zero, List.set_cons_succ]
        refine RX.seqP_value (fun _ => Below.refl _ _) _ (by first | rfl | simp) (fun w' hw' hctx => ?_) ?_
        · go_simp
          try first | with_reducible rfl | simp
        simp only [Act.put, List.setIfInBounds_toArray, List.set_cons_zero, List.set_cons_succ]
        refine RX.seqP_value (fun _ => Below.refl _ _) _ (by first | rfl | simp) (fun w' hw' hctx => ?_) ?_
        · go_simp
          try first | with_reducible rfl | simp
        simp only [Act.put, List.setIfInBounds_toArray, List.set_cons_zero, List.set_cons_succ]
        refine RX.seqP_nil (fun w4 hR hctx _ => ?_)
        have hv4 := below_tr hdr10 hR
        clear hctx hR
        gi_wp2_with fail
        exact HEND.out _ hv4
      · have hkz : decide (xk = 0) = false := decide_eq_false hk0
        have HZ := Lib.hid hkz
        have hkm : (xk : Int) = (xm : Int) + 1 := by have h1 : xk = xm + 1 := HGD.out.2.2.2.2 hk0; omega
        have HKM := Lib.hid hkm
        have hm7 : xm ≤ 7 := HGD.out.2.1
        clear hkz hk0 hkm
        gi_wp2_with fail
        clear heq d0 d2 d4 x0 x1 glt klt xlt elt h71 h11 h31
        have hdr10 := below_drw W2
        try simp only [List.append_eq, List.cons_append, List.nil_append]
        refine RX.wpIn_region_plan (r := some l2) (fun w w' => Below w.heap.size w w') [.it (.pointer (some ⟨xg, 0, none⟩)), .it (.bool false), .it (.bool false), .it undef, .it undef, .it undef, .it (.bool false), .it (.bool false), .it (.pointer (some ⟨xg, 0, none⟩)), .it (.bool false), .it (.bool true), .it (.bool true), .it (.pointer (some ⟨xg, 0, none⟩)), .it (.pointer (some ⟨xg, 0, none⟩)), .it (.pointer (some ⟨xg, 1, none⟩)), .it (.slice ca xk cc), .it (.int .i64 (xk : Int)), .it (.pointer (some ⟨xg, 0, none⟩)), .it (.pointer (some ⟨xg, 0, none⟩)), .it (.pointer (some ⟨xg, 0, none⟩)), .it (.slice ea xm ec), .it (.int .i64 (xm : Int)), .it (.int .i64 ((xm : Int) + 1)), .it (.bool false), .it (.bool false), .it (.bool false)] (by kernel_rfl) (by kernel_rfl) (by kernel_rfl) (fun hlo => ?_) (fun _ => Below.refl _ _) (fun _ _ _ => below_tr) ?_
        · obtain ⟨aa, ww, hh⟩ := hlo
          rcases hh with ⟨hh, _⟩ | ⟨hh, _⟩ <;> cases hh
        refine RX.seqP_value (fun _ => Below.refl _ _) _ (by first | rfl | simp) (fun w' hw' hctx => ?_) ?_
        · go_simp
          try first | with_reducible rfl | simp
        simp only [Act.put, List.setIfInBounds_toArray, List.set_cons_zero, List.set_cons_succ]
        refine RX.seqP_call (40) #[.pointer (some ⟨xg, 0, none⟩)] (.bool false) (by first | rfl | simp) (fun w' hw' hctx => ?_) (fun w' hw' hctx => leaf_is xg xk cc ca false HZ.out w' (HRX.out w' (below_tr hdr10 hw')).2.2) ?_
        · go_simp
        simp only [Act.put, List.setIfInBounds_toArray, List.set_cons_zero, List.set_cons_succ]
        refine RX.seqP_value (fun _ => Below.refl _ _) _ (by first | rfl | simp) (fun w' hw' hctx => ?_) ?_
        · go_simp
          try first | with_reducible rfl | simp
        simp only [Act.put, List.setIfInBounds_toArray, List.set_cons_zero, List.set_cons_succ]
        refine RX.seqP_skip (by first | rfl | simp) ?_
        simp only [Act.put, List.setIfInBounds_toArray, List.set_cons_zero, List.set_cons_succ]
        refine RX.seqP_skip (by first | rfl | simp) ?_
        simp only [Act.put, List.setIfInBounds_toArray, List.set_cons_zero, List.set_cons_succ]
        refine RX.seqP_skip (by first | rfl | simp) ?_
        simp only [Act.put, List.setIfInBounds_toArray, List.set_cons_zero, List.set_cons_succ]
        refine RX.seqP_value (fun _ => Below.refl _ _) _ (by first | rfl | simp) (fun w' hw' hctx => ?_) ?_
        · go_simp
          try first | with_reducible rfl | simp
        simp only [Act.put, List.setIfInBounds_toArray, List.set_cons_zero, List.set_cons_succ]
        refine RX.seqP_value (fun _ => Below.refl _ _) _ (by first | rfl | simp) (fun w' hw' hctx => ?_) ?_
        · go_simp
          try first | with_reducible rfl | simp
        simp only [Act.put, List.setIfInBounds_toArray, List.set_cons_zero, List.set_cons_succ]
        refine RX.seqP_value (fun _ => Below.refl _ _) _ (by first | rfl | simp) (fun w' hw' hctx => ?_) ?_
        · go_simp
          try first | with_reducible rfl | simp
        simp only [Act.put, List.setIfInBounds_toArray, List.set_cons_zero, List.set_cons_succ]
        refine RX.seqP_call (40) #[.pointer (some ⟨xg, 0, none⟩)] (.bool false) (by first | rfl | simp) (fun w' hw' hctx => ?_) (fun w' hw' hctx => leaf_is xg xk cc ca false HZ.out w' (HRX.out w' (below_tr hdr10 hw')).2.2) ?_
        · go_simp
        simp only [Act.put, List.setIfInBounds_toArray, List.set_cons_zero, List.set_cons_succ]
        refine RX.seqP_value (fun _ => Below.refl _ _) _ (by first | rfl | simp) (fun w' hw' hctx => ?_) ?_
        · go_simp
          try first | with_reducible rfl | simp
        simp only [Act.put, List.setIfInBounds_toArray, List.set_cons_zero, List.set_cons_succ]
        refine RX.seqP_value (fun _ => Below.refl _ _) _ (by first | rfl | simp) (fun w' hw' hctx => ?_) ?_
        · go_simp
          try first | with_reducible rfl | simp
        simp only [Act.put, List.setIfInBounds_toArray, List.set_cons_zero, List.set_cons_succ]
        refine RX.seqP_value (fun _ => Below.refl _ _) _ (by first | rfl | simp) (fun w' hw' hctx => ?_) ?_
        · go_simp
          try first | with_reducible rfl | simp
        simp only [Act.put, List.setIfInBounds_toArray, List.set_cons_zero, List.set_cons_succ]
        refine RX.seqP_value (fun _ => Below.refl _ _) _ (by first | rfl | simp) (fun w' hw' hctx => ?_) ?_
        · go_simp
          try first | with_reducible rfl | simp
        simp only [Act.put, List.setIfInBounds_toArray, List.set_cons_zero, List.set_cons_succ]
        refine RX.seqP_value (fun _ => Below.refl _ _) _ (by first | rfl | simp) (fun w' hw' hctx => ?_) ?_
        · go_simp
          try first | with_reducible rfl | simp
        simp only [Act.put, List.setIfInBounds_toArray, List.set_cons_zero, List.set_cons_succ]
        refine RX.seqP_value (fun _ => Below.refl _ _) _ (by first | rfl | simp) (fun w' hw' hctx => ?_) ?_
        · obtain ⟨j0, j1, j2⟩ := HRX.out w' (below_tr hdr10 hw')
          go_simp
          try first | with_reducible rfl | simp
        simp only [Act.put, List.setIfInBounds_toArray, List.set_cons_zero, List.set_cons_succ]
        refine RX.seqP_value (fun _ => Below.refl _ _) _ (by first | rfl | simp) (fun w' hw' hctx => ?_) ?_
        · go_simp
          try first | with_reducible rfl | simp
        simp only [Act.put, List.setIfInBounds_toArray, List.set_cons_zero, List.set_cons_succ]
        refine RX.seqP_value (fun _ => Below.refl _ _) _ (by first | rfl | simp) (fun w' hw' hctx => ?_) ?_
        · go_simp
          try first | with_reducible rfl | simp
        simp only [Act.put, List.setIfInBounds_toArray, List.set_cons_zero, List.set_cons_succ]
        refine RX.seqP_value (fun _ => Below.refl _ _) _ (by first | rfl | simp) (fun w' hw' hctx => ?_) ?_
        · go_simp
          try first | with_reducible rfl | simp
        simp only [Act.put, List.setIfInBounds_toArray, List.set_cons_zero, List.set_cons_succ]
        refine RX.seqP_value (fun _ => Below.refl _ _) _ (by first | rfl | simp) (fun w' hw' hctx => ?_) ?_
        · go_simp
          try first | with_reducible rfl | simp
        simp only [Act.put, List.setIfInBounds_toArray, List.set_cons_zero, List.set_cons_succ]
        refine RX.seqP_value (fun _ => Below.refl _ _) _ (by first | rfl | simp) (fun w' hw' hctx => ?_) ?_
        · obtain ⟨j0, j1, j2⟩ := HRX.out w' (below_tr hdr10 hw')
          go_simp
          try first | with_reducible rfl | simp
        simp only [Act.put, List.setIfInBounds_toArray, List.set_cons_zero, List.set_cons_succ]
        refine RX.seqP_value (fun _ => Below.refl _ _) _ (by first | rfl | simp) (fun w' hw' hctx => ?_) ?_
        · go_simp
          try first | with_reducible rfl | simp
        simp only [Act.put, List.setIfInBounds_toArray, List.set_cons_zero, List.set_cons_succ]
        refine RX.seqP_value (fun _ => Below.refl _ _) _ (by first | rfl | simp) (fun w' hw' hctx => ?_) ?_
        · have hm7 := HGD.out.2.1
          go_simp
          try first | with_reducible rfl | simp
          exact wrapI (by unfold I64; simp only at hm7; omega)
        simp only [Act.put, List.setIfInBounds_toArray, List.set_cons_zero, List.set_cons_succ]
        refine RX.seqP_value (fun _ => Below.refl _ _) _ (by first | rfl | simp) (fun w' hw' hctx => ?_) ?_
        · have hkm := HKM.out
          go_simp
          try first | with_reducible rfl | simp
        simp only [Act.put, List.setIfInBounds_toArray, List.set_cons_zero, List.set_cons_succ]
        refine RX.seqP_value (fun _ => Below.refl _ _) _ (by first | rfl | simp) (fun w' hw' hctx => ?_) ?_
        · go_simp
          try first | with_reducible rfl | simp
        simp only [Act.put, List.setIfInBounds_toArray, List.set_cons_zero, List.set_cons_succ]
        refine RX.seqP_value (fun _ => Below.refl _ _) _ (by first | rfl | simp) (fun w' hw' hctx => ?_) ?_
        · go_simp
          try first | with_reducible rfl | simp
        simp only [Act.put, List.setIfInBounds_toArray, List.set_cons_zero, List.set_cons_succ]
        refine RX.seqP_nil (fun w4 hR hctx _ => ?_)
        have hv4 := below_tr hdr10 hR
        clear hctx hR
        gi_wp2_with fail
        exact HEND.out _ hv4
  case done =>
    intro D A2 W2 hI hA hst hD hDn hDb
    have hb2 : Below V.heap.size V W2 := below_tr HB3.out hI.1
    have lR := HL2.out.below hb2
    have d0 := lR.at' 0 _ rfl
    have d1 := lR.fz 0
    have dlt := lR.lt
    obtain ⟨W4, hW4⟩ : ∃ W4, W2.setCell ⟨k0 + 1, 0, none⟩ (.bool true) = W4 := ⟨_, rfl⟩
    have tc : TouchC (fun k _ => k = k0 + 1) W2 W4 := by rw [← hW4]; exact TouchC.setCell (F := fun k _ => k = k0 + 1) (TouchC.refl _ _) rfl _
    have l4 : Lit W4 (k0 + 1) [.bool true] := by rw [← hW4]; exact lit_put_one lR rfl
    have hst4 : Stay A2 W2 W4 := tc.stay fun k q hk hf => hI.2.2 (by rw [← hf]; exact hk)
    have HMK : Hid (Marks A2 v3.heap.size W4 [{ target := .collected D, args := #[] }] [D]) := Lib.hid (((Marks.nil _ _ _).cons hD hDn hDb (by simp)).stay (fun _ h => h) hst4)
    have hbw : Below w.heap.size w W4 := by
      have h1 : Below w.heap.size w W2 := below_tr HBV.out hb2
      refine h1.trans ((tc.touch (G := fun k => w.heap.size ≤ k) fun k q _ hf => by rw [hf, HK0.out]; omega).below (fun _ h => h) h1.size)
    have HE := Lib.hid (And.intro l4 hbw)
    have HW4 := Lib.hid hW4
    clear hI hA hst hD hDn hDb hb2 lR tc l4 hst4 hbw hW4
    go_wp2_with fail
    rw [HW4.out]
    refine HMK.out.leaves fun W' htt hss => ?_
    have hl : Lit W' (k0 + 1) [.bool true] := HE.out.1.stay (htt.stay (G := fun k => k = k0 + 1) fun k hk hx => by have := HK3.out; omega) rfl
    have e0 := hl.at' 0 _ rfl
    refine ⟨.bool true, ?_, rfl, HE.out.2.trans (htt.below (fun k hk => ?_) HE.out.2.size)⟩
    · simp [results, Try.results31, go_sem, e0]
    · have h1 := HB3.out.size
      have h2 := HBV.out.size
      omega
end
end Go.Proofs.Ytfikaccgpjiedaa

