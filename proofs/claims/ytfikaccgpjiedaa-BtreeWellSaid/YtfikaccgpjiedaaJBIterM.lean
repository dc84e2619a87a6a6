/-
  What from hands over, in which order; what holds while it does.
-/
import Derived.Test.YtfikaccgpjiedaaJBTopM
import Derived.Test.YtfikaccgpjiedaaJRng
namespace Go.Proofs.Ytfikaccgpjiedaa
open Go.RowKit Go.Lib

/-! ### Entries in order -/

def gek (key : List Val) (x : CE) : Bool := !ltK x.e.key key

/-- What stands in the children, a leaf's being empty. -/
def csN (h : Nat) (n : Nd (Kid h)) : List (List CE) := if h = 0 then List.replicate (n.es.length + 1) [] else n.ks.map (flatN h)

theorem weave_nils {α : Type} : ∀ es : List α, weave (List.replicate (es.length + 1) []) es = es
  | [] => rfl
  | e :: es => by
      rw [show List.replicate ((e :: es).length + 1) ([] : List α) = [] :: List.replicate (es.length + 1) [] from rfl, weave, weave_nils es]
      rfl

theorem flat_cs : ∀ (h : Nat) (n : Nd (Kid h)), flatN (h + 1) n = weave (csN h n) n.es
  | 0, n => by
      have e : csN 0 n = List.replicate (n.es.length + 1) [] := if_pos rfl
      rw [e, weave_nils]
      rfl
  | h + 1, n => by
      have e : csN (h + 1) n = n.ks.map (flatN (h + 1)) := if_neg (by omega)
      rw [e]
      exact flatN_node h n

theorem cs_len {h lo hi : Nat} {n : Nd (Kid h)} (hw : wfN (h + 1) lo hi n) : (csN h n).length = n.es.length + 1 := by
  cases h with
  | zero =>
    have e : csN 0 n = List.replicate (n.es.length + 1) [] := if_pos rfl
    rw [e, List.length_replicate]
  | succ h =>
    have e : csN (h + 1) n = n.ks.map (flatN (h + 1)) := if_neg (by omega)
    rw [e, List.length_map]
    exact hw.2.2.1 (by omega)

theorem cs_leaf {n : Nd (Kid 0)} {i : Nat} (hi : i ≤ n.es.length) : (csN 0 n)[i]? = some [] := by
  have e : csN 0 n = List.replicate (n.es.length + 1) [] := if_pos rfl
  rw [e, List.getElem?_replicate, if_pos (by omega)]

theorem cs_kid {h : Nat} {n : Nd (Kid (h + 1))} {i : Nat} {d : Kid (h + 1)} (hd : n.ks[i]? = some d) : (csN (h + 1) n)[i]? = some (flatN (h + 1) d) := by
  have e : csN (h + 1) n = n.ks.map (flatN (h + 1)) := if_neg (by omega)
  rw [e]
  simp [hd]

/-- All that is handed over. -/
def allF (h : Nat) (n : Kid h) (key : List Val) : List CE := (flatN h n).filter (gek key)
/-- What has been handed over ahead of child i. -/
def upto (h : Nat) (n : Nd (Kid h)) (key : List Val) (i : Nat) : List CE := if i ≤ n.es.length then (preW (csN h n) n.es i).filter (gek key) else allF (h + 1) n key

section
variable {h lo hi : Nat} {W : World} {K : Nat → Prop} {n : Nd (Kid h)} {key : List Val}

theorem upto_start (t : Tree (h + 1) lo hi W K n) {i0 : Nat} (hh : HereK (entsC n.es) key i0) : upto h n key i0 = [] := by
  have h1 : i0 ≤ n.es.length := by have := hh.1; unfold entsC at this; rwa [List.length_map] at this
  unfold upto
  rw [if_pos h1]
  cases i0 with
  | zero => simp [preW]
  | succ j =>
    obtain ⟨x, hx⟩ : ∃ x, n.es[j]? = some x := ⟨n.es[j], by simp [show j < n.es.length by omega]⟩
    have hl := cs_len t.wf
    obtain ⟨c, hc⟩ : ∃ c, (csN h n)[j]? = some c := ⟨(csN h n)[j], by simp [show j < (csN h n).length by omega]⟩
    obtain ⟨c', hc'⟩ : ∃ c, (csN h n)[j + 1]? = some c := ⟨(csN h n)[j + 1], by simp [show j + 1 < (csN h n).length by omega]⟩
    have hs : (flatN (h + 1) n).Pairwise (fun a b => ltE a.e b.e = true) := List.pairwise_map.1 t.srt
    rw [flat_cs, weave_at _ _ _ _ hl hc'] at hs
    have hp := (List.pairwise_append.1 hs).1
    rw [preW_succ _ _ _ _ _ hc hx, ← List.append_assoc] at hp
    have hlt : ltK x.e.key key = true := hh.2.1 j x.e (by omega) (ents_get hx)
    rw [preW_succ _ _ _ _ _ hc hx, ← List.append_assoc, List.filter_eq_nil_iff]
    intro y hy
    have : ltK y.e.key key = true := by
      rcases List.mem_append.1 hy with hy | hy
      · exact ltK_down ((List.pairwise_append.1 hp).2.2 y hy x (by simp)) hlt
      · obtain rfl : y = x := by simpa using hy
        exact hlt
    simp [gek, this]

theorem upto_entry {i : Nat} {c : List CE} {x : CE} (hc : (csN h n)[i]? = some c) (hx : n.es[i]? = some x) (hg : gek key x = true) : upto h n key (i + 1) = upto h n key i ++ (c.filter (gek key) ++ [x]) := by
  have h1 := (List.getElem?_eq_some_iff.1 hx).1
  unfold upto
  rw [if_pos (by omega), if_pos (by omega), preW_succ _ _ _ _ _ hc hx]
  simp [hg]

theorem all_at (t : Tree (h + 1) lo hi W K n) {i : Nat} {c : List CE} (hi' : i ≤ n.es.length) (hc : (csN h n)[i]? = some c) : allF (h + 1) n key = upto h n key i ++ (c.filter (gek key) ++ (postW (csN h n) n.es i).filter (gek key)) := by
  unfold allF upto
  rw [if_pos hi', flat_cs, weave_at _ _ _ _ (cs_len t.wf) hc]
  simp

theorem upto_last (t : Tree (h + 1) lo hi W K n) {c : List CE} (hc : (csN h n)[n.es.length]? = some c) : upto h n key (n.es.length + 1) = upto h n key n.es.length ++ c.filter (gek key) := by
  have e1 : upto h n key (n.es.length + 1) = allF (h + 1) n key := if_neg (by omega)
  have e2 : postW (csN h n) n.es n.es.length = [] := by unfold postW; simp
  rw [e1, all_at t (Nat.le_refl _) hc, e2]
  simp

theorem upto_end : upto h n key (n.es.length + 1) = allF (h + 1) n key := if_neg (by omega)

/-- What comes with child i is of what comes at all. -/
theorem upto_kid (t : Tree (h + 1) lo hi W K n) {i : Nat} {c : List CE} (hi' : i ≤ n.es.length) (hc : (csN h n)[i]? = some c) {q : List CE} (hq : q <+: c.filter (gek key)) : upto h n key i ++ q <+: allF (h + 1) n key := by
  obtain ⟨r, hr⟩ := hq
  rw [all_at t hi' hc, ← hr]
  exact ⟨r ++ (postW (csN h n) n.es i).filter (gek key), by simp⟩

theorem upto_here (t : Tree (h + 1) lo hi W K n) {i : Nat} (hi' : i ≤ n.es.length) : upto h n key i <+: allF (h + 1) n key := by
  have hl := cs_len t.wf
  obtain ⟨c, hc⟩ : ∃ c, (csN h n)[i]? = some c := ⟨(csN h n)[i], by simp [show i < (csN h n).length by omega]⟩
  have := upto_kid t (key := key) (q := []) hi' hc (List.nil_prefix)
  rwa [List.append_nil] at this
end

/-! ### The party -/

def encE (x : CE) : Array Value := #[.agg #[.slice x.a x.e.key.length x.c, .int .i64 x.e.id]]

/-- What is said of an entry that is handed over; G is what holds of all of them. -/
def KG (G : CE → Prop) (A : Nat → Prop) (W : World) (x : CE) : Prop := KOk A W x ∧ G x
theorem tellsE (G : CE → Prop) : Tells (KG G) := ⟨fun h hA => ⟨h.1.mono hA, h.2⟩, fun h hs => ⟨h.1.stay hs, h.2⟩⟩

theorem round_at {P : Program} {m m' l : Nat} {r r' : Option Nat} {f : FuncId} {tmps : Array Value} {assign body : Code} {w : World} {R : Ending → World → Prop} (h : RoundIn (RX.wideAt r) m P l f tmps assign body w R) : RoundIn (RX.wideAt r') m' P l f tmps assign body w R :=
  ⟨trivial, fun c cs _ => h.2 c cs (fun _ hd => by cases hd)⟩

/-! ### Marks -/

/-- The marks of the loops that have been entered. -/
structure Marks (A : Nat → Prop) (n0 : Nat) (W : World) (ds : List Deferred) (Ds : List Nat) : Prop where
  eq : ds = Ds.map fun D => { target := .collected D, args := #[] }
  nodup : Ds.Nodup
  mem : ∀ D ∈ Ds, A D ∧ n0 ≤ D ∧ W.heap[D]? = some (.deferred (some []))

theorem Marks.nil (A : Nat → Prop) (n0 : Nat) (W : World) : Marks A n0 W [] [] := ⟨rfl, List.nodup_nil, fun _ h => absurd h List.not_mem_nil⟩
theorem Marks.stay {A A' : Nat → Prop} {n0 : Nat} {W W' : World} {ds : List Deferred} {Ds : List Nat} (h : Marks A n0 W ds Ds) (hA : ∀ k, A k → A' k) (hs : Stay A W W') : Marks A' n0 W' ds Ds :=
  ⟨h.eq, h.nodup, fun D hD => by
    obtain ⟨h1, h2, h3⟩ := h.mem D hD
    exact ⟨hA D h1, h2, by rw [hs.block D ((Array.getElem?_eq_some_iff.1 h3).1) h1]; exact h3⟩⟩
theorem Marks.cons {A : Nat → Prop} {n0 : Nat} {W : World} {ds : List Deferred} {Ds : List Nat} (h : Marks A n0 W ds Ds) {D : Nat} (hD : A D) (hn : n0 ≤ D) (hb : W.heap[D]? = some (.deferred (some []))) (hnew : D ∉ Ds) : Marks A n0 W ({ target := .collected D, args := #[] } :: ds) (D :: Ds) :=
  ⟨by rw [h.eq]; rfl, List.nodup_cons.2 ⟨hnew, h.nodup⟩, fun E hE => by
    rcases List.mem_cons.1 hE with rfl | hE
    · exact ⟨hD, hn, hb⟩
    · exact h.mem E hE⟩

theorem leaves_marks {P : Program} {n : Nat} {fn : Func} {tmps : Array Value} {R : Ending → World → Prop} : ∀ (Ds : List Nat) (W : World), Ds.Nodup → (∀ D ∈ Ds, W.heap[D]? = some (.deferred (some []))) →
    (∀ W', Touch (fun k => k ∈ Ds) W W' → W'.heap.size = W.heap.size → ∃ v, (results fn tmps).run P W' = .ok v W' ∧ R (.returned v) W') → LeavesInM .wide n P fn tmps R (Ds.map fun D => { target := .collected D, args := #[] }) .returning W
  | [], W, _, _, h => h W (Touch.refl _ _) rfl
  | D :: Ds, W, hn, hb, h => by
      obtain ⟨h1, h2⟩ := List.nodup_cons.1 hn
      refine ⟨by simp, .inl ⟨D, _, rfl, run_takeDeferred (hb D (List.mem_cons_self ..)), leaves_marks Ds _ h2 (fun E hE => ?_) (fun W' ht hs => ?_)⟩⟩
      · rw [World.putObj_heap_other (fun e => h1 (by rw [← e]; exact hE))]
        exact hb E (List.mem_cons_of_mem _ hE)
      · refine h W' ((touch_put (F := fun k => k ∈ D :: Ds) W _ (List.mem_cons_self ..)).trans ht (fun k _ hk => List.mem_cons_of_mem _ hk)) ?_
        rw [hs, World.putObj_size]

theorem Marks.leaves {P : Program} {n : Nat} {fn : Func} {tmps : Array Value} {R : Ending → World → Prop} {A : Nat → Prop} {n0 : Nat} {W : World} {ds : List Deferred} {Ds : List Nat} (h : Marks A n0 W ds Ds)
    (hR : ∀ W', Touch (fun k => A k ∧ n0 ≤ k) W W' → W'.heap.size = W.heap.size → ∃ v, (results fn tmps).run P W' = .ok v W' ∧ R (.returned v) W') : LeavesInM .wide n P fn tmps R ds .returning W := by
  rw [h.eq]
  refine leaves_marks Ds W h.nodup (fun D hD => (h.mem D hD).2.2) (fun W' ht hs => hR W' ?_ hs)
  exact ⟨ht.os, ht.tape, ht.output, ht.size, fun k hk hn => ht.block k hk (fun hx => hn ⟨(h.mem k hx).1, (h.mem k hx).2.1⟩)⟩

end Go.Proofs.Ytfikaccgpjiedaa

