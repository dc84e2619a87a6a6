/-
  What is of no program: trees of entries whose leaves stand equally deep (by their type), what they hold in order, how many (stage 7).
-/
import Derived.Test.YtfikaccgpjiedaaJBList
namespace Go.Proofs.Ytfikaccgpjiedaa

/-- Trees whose leaves stand h deep: a leaf's entries; a node's entries and children. -/
def Tr (α : Type) : Nat → Type
  | 0 => List α
  | h + 1 => List α × List (Tr α h)

section
variable {α : Type}

/-- Children and entries by turns. -/
def weave : List (List α) → List α → List α
  | [], _ => []
  | c :: _, [] => c
  | c :: cs, e :: es => c ++ e :: weave cs es

def flat : (h : Nat) → Tr α h → List α
  | 0, l => l
  | h + 1, (es, cs) => weave (cs.map (flat h)) es

/-- Each node has from lo (the others: from 3) to 7 entries, and one child more. -/
def wfT : (h : Nat) → Nat → Tr α h → Prop
  | 0, lo, l => lo ≤ List.length (α := α) l ∧ List.length (α := α) l ≤ 7
  | h + 1, lo, (es, cs) => lo ≤ es.length ∧ es.length ≤ 7 ∧ cs.length = es.length + 1 ∧ ∀ c ∈ cs, wfT h 3 c

theorem weave_app : ∀ (cl : List (List α)) (el : List α) (m : α) (cr : List (List α)) (er : List α), cl.length = el.length + 1 → weave (cl ++ cr) (el ++ m :: er) = weave cl el ++ m :: weave cr er
  | [], _, _, _, _, h => by simp at h
  | [c], [], _, _, _, _ => by simp [weave]
  | _ :: _ :: _, [], _, _, _, h => by simp at h
  | c :: cl, e :: el, m, cr, er, h => by
      simp only [List.cons_append, weave]
      rw [weave_app cl el m cr er (by simpa using h)]
      simp

theorem weave_len : ∀ (cs : List (List α)) (es : List α), cs.length = es.length + 1 → (weave cs es).length = es.length + (cs.map List.length).sum
  | [], _, h => by simp at h
  | [c], [], _ => by simp [weave]
  | _ :: _ :: _, [], h => by simp at h
  | c :: cs, e :: es, h => by
      simp only [weave, List.length_append, List.length_cons, List.map_cons, List.sum_cons]
      rw [weave_len cs es (by simpa using h)]
      omega

theorem weave_one (c : List α) : weave [c] [] = c := rfl

/-- What stands ahead of child i, and behind it. -/
def preW (cs : List (List α)) (es : List α) (i : Nat) : List α := ((cs.take i).zip (es.take i)).flatMap fun p => p.1 ++ [p.2]
def postW (cs : List (List α)) (es : List α) (i : Nat) : List α := ((es.drop i).zip (cs.drop (i + 1))).flatMap fun p => p.1 :: p.2

theorem weave_post : ∀ (c : List α) (cs : List (List α)) (es : List α), cs.length = es.length → weave (c :: cs) es = c ++ (es.zip cs).flatMap fun p => p.1 :: p.2
  | c, [], [], _ => by simp [weave]
  | _, [], _ :: _, h => by simp at h
  | _, _ :: _, [], h => by simp at h
  | c, d :: cs, e :: es, h => by
      rw [weave, weave_post d cs es (by simpa using h)]
      simp

/-- Child i in its place. -/
theorem weave_at : ∀ (cs : List (List α)) (es : List α) (i : Nat) (c : List α), cs.length = es.length + 1 → cs[i]? = some c → weave cs es = preW cs es i ++ (c ++ postW cs es i)
  | [], _, _, _, h, _ => by simp at h
  | d :: cs, es, 0, c, h, hc => by
      simp at hc
      subst hc
      rw [weave_post d cs es (by simpa using h)]
      simp [preW, postW]
  | [_], [], i + 1, c, _, hc => by simp at hc
  | _ :: _ :: _, [], _, _, h, _ => by simp at h
  | d :: cs, e :: es, i + 1, c, h, hc => by
      rw [weave, weave_at cs es i c (by simpa using h) (by simpa using hc)]
      simp [preW, postW]

theorem preW_set (cs : List (List α)) (es : List α) (i : Nat) (c : List α) : preW (cs.set i c) es i = preW cs es i := by
  unfold preW
  rw [List.take_set_of_le (Nat.le_refl i)]

theorem postW_set (cs : List (List α)) (es : List α) (i : Nat) (c : List α) : postW (cs.set i c) es i = postW cs es i := by
  unfold postW
  rw [List.drop_set_of_lt (by omega)]

/-- Another child in its place. -/
theorem weave_set (cs : List (List α)) (es : List α) (i : Nat) (c : List α) (h : cs.length = es.length + 1) (hi : i < cs.length) : weave (cs.set i c) es = preW cs es i ++ (c ++ postW cs es i) := by
  rw [weave_at (cs.set i c) es i c (by simpa using h) (by simp [hi]), preW_set, postW_set]

theorem preW_succ (cs : List (List α)) (es : List α) (i : Nat) (c : List α) (e : α) (hc : cs[i]? = some c) (he : es[i]? = some e) : preW cs es (i + 1) = preW cs es i ++ (c ++ [e]) := by
  have h1 := (List.getElem?_eq_some_iff.mp hc).1
  have h2 := (List.getElem?_eq_some_iff.mp he).1
  unfold preW
  rw [List.take_add_one, List.take_add_one, hc, he]
  simp only [Option.toList_some]
  rw [List.zip_append (by simp only [List.length_take]; omega), List.flatMap_append]
  simp

theorem postW_succ (cs : List (List α)) (es : List α) (i : Nat) (c : List α) (e : α) (hc : cs[i + 1]? = some c) (he : es[i]? = some e) : postW cs es i = e :: (c ++ postW cs es (i + 1)) := by
  obtain ⟨h1, h1'⟩ := List.getElem?_eq_some_iff.mp hc
  obtain ⟨h2, h2'⟩ := List.getElem?_eq_some_iff.mp he
  unfold postW
  rw [List.drop_eq_getElem_cons h2, List.drop_eq_getElem_cons h1, h1', h2']
  simp

/-- Entry i in its place. -/
theorem weave_entry (cs : List (List α)) (es : List α) (i : Nat) (c d : List α) (e : α) (h : cs.length = es.length + 1) (hc : cs[i]? = some c) (hd : cs[i + 1]? = some d) (he : es[i]? = some e) :
    weave cs es = (preW cs es i ++ c) ++ e :: (d ++ postW cs es (i + 1)) := by
  rw [weave_at cs es i c h hc, postW_succ cs es i d e hd he]
  simp

theorem mem_weave {x : α} : ∀ {cs : List (List α)} {es : List α}, cs.length = es.length + 1 → (x ∈ weave cs es ↔ x ∈ es ∨ ∃ c ∈ cs, x ∈ c)
  | [], _, h => by simp at h
  | [c], [], _ => by simp [weave]
  | _ :: _ :: _, [], h => by simp at h
  | c :: cs, e :: es, h => by
      have ih := mem_weave (x := x) (cs := cs) (es := es) (by simpa using h)
      simp only [weave, List.mem_append, List.mem_cons, ih, exists_eq_or_imp]
      constructor
      · rintro (h | h | h | h) <;> simp [h]
      · rintro ((h | h) | h | h) <;> simp [h]

/-! ### How many -/

theorem sum_low {f : α → Nat} {k : Nat} : ∀ {l : List α}, (∀ x ∈ l, k ≤ f x) → l.length * k ≤ (l.map f).sum
  | [], _ => by simp
  | x :: l, h => by
      have h1 := h x (List.mem_cons_self ..)
      have h2 := sum_low (f := f) (k := k) (l := l) fun y hy => h y (List.mem_cons_of_mem _ hy)
      simp only [List.length_cons, List.map_cons, List.sum_cons, Nat.add_mul, Nat.one_mul]
      omega

theorem sum_high {f : α → Nat} {k : Nat} : ∀ {l : List α}, (∀ x ∈ l, f x ≤ k) → (l.map f).sum ≤ l.length * k
  | [], _ => by simp
  | x :: l, h => by
      have h1 := h x (List.mem_cons_self ..)
      have h2 := sum_high (f := f) (k := k) (l := l) fun y hy => h y (List.mem_cons_of_mem _ hy)
      simp only [List.length_cons, List.map_cons, List.sum_cons, Nat.add_mul, Nat.one_mul]
      omega
end

section
variable {α : Type}

theorem flat_node (h : Nat) (es : List α) (cs : List (Tr α h)) : flat (h + 1) (es, cs) = weave (cs.map (flat h)) es := rfl

theorem flat_len (h : Nat) (es : List α) (cs : List (Tr α h)) (hc : cs.length = es.length + 1) : (flat (h + 1) (es, cs)).length = es.length + (cs.map fun c => (flat h c).length).sum := by
  rw [flat_node, weave_len _ _ (by simpa using hc), List.map_map]
  rfl

theorem wf_low : ∀ (h : Nat) {lo : Nat} {t : Tr α h}, 1 ≤ lo → lo ≤ 3 → wfT h lo t → (lo + 1) * 4 ^ h ≤ (flat h t).length + 1
  | 0, lo, t, _, _, hw => by
      have : lo ≤ (flat 0 t).length := hw.1
      omega
  | h + 1, lo, (es, cs), h1, h3, hw => by
      obtain ⟨ha, hb, hc, hd⟩ := hw
      rw [flat_len h es cs hc]
      have hs := sum_low (f := fun c => (flat h c).length) (k := 4 ^ (h + 1) - 1) (l := cs) fun c hcs => by
        have := wf_low h (lo := 3) (by omega) (by omega) (hd c hcs)
        rw [Nat.pow_succ]
        omega
      have h4 : 1 ≤ 4 ^ (h + 1) := Nat.pow_pos (by omega)
      rw [hc] at hs
      have h5 : (lo + 1) * 4 ^ (h + 1) ≤ (es.length + 1) * 4 ^ (h + 1) := Nat.mul_le_mul_right _ (by omega)
      have h6 : (es.length + 1) * (4 ^ (h + 1) - 1) + (es.length + 1) = (es.length + 1) * 4 ^ (h + 1) := by
        rw [Nat.mul_sub, Nat.mul_one]
        have : es.length + 1 ≤ (es.length + 1) * 4 ^ (h + 1) := Nat.le_mul_of_pos_right _ h4
        omega
      omega

theorem wf_high : ∀ (h : Nat) {lo : Nat} {t : Tr α h}, wfT h lo t → (flat h t).length + 1 ≤ 8 ^ (h + 1)
  | 0, lo, t, hw => by
      have : (flat 0 t).length ≤ 7 := hw.2
      omega
  | h + 1, lo, (es, cs), hw => by
      obtain ⟨ha, hb, hc, hd⟩ := hw
      rw [flat_len h es cs hc]
      have hs := sum_high (f := fun c => (flat h c).length) (k := 8 ^ (h + 1) - 1) (l := cs) fun c hcs => by
        have := wf_high h (hd c hcs)
        omega
      have h4 : 1 ≤ 8 ^ (h + 1) := Nat.pow_pos (by omega)
      rw [hc] at hs
      have h6 : (es.length + 1) * (8 ^ (h + 1) - 1) + (es.length + 1) = (es.length + 1) * 8 ^ (h + 1) := by
        rw [Nat.mul_sub, Nat.mul_one]
        have : es.length + 1 ≤ (es.length + 1) * 8 ^ (h + 1) := Nat.le_mul_of_pos_right _ h4
        omega
      have h5 : (es.length + 1) * 8 ^ (h + 1) ≤ 8 * 8 ^ (h + 1) := Nat.mul_le_mul_right _ (by omega)
      rw [Nat.pow_succ 8 (h + 1)]
      omega

/-- P7.5: the height of a tree that has entries is h + 1. -/
theorem wf_height {h : Nat} {t : Tr α h} (hw : wfT h 1 t) : 2 * 4 ^ h ≤ (flat h t).length + 1 ∧ (flat h t).length + 1 ≤ 8 ^ (h + 1) :=
  ⟨wf_low h (by omega) (by omega) hw, wf_high h hw⟩

theorem wf_weaken : ∀ (h : Nat) {a b : Nat} {t : Tr α h}, a ≤ b → wfT h b t → wfT h a t
  | 0, _, _, _, hab, hw => ⟨Nat.le_trans hab hw.1, hw.2⟩
  | _ + 1, _, _, (_, _), hab, hw => ⟨Nat.le_trans hab hw.1, hw.2⟩
end

end Go.Proofs.Ytfikaccgpjiedaa

/-
  What is of no program: where an entry belongs in a node, and what it comes to when the child there is another one (stage 7).
-/
namespace Go.Proofs.Ytfikaccgpjiedaa

section
variable {α : Type} {lt : α → α → Bool}

/-- Of a node's entries those ahead of i are less than x, those from i on are not. -/
def Here (lt : α → α → Bool) (es : List α) (x : α) (i : Nat) : Prop :=
  i ≤ es.length ∧ (∀ (j : Nat) e, j < i → es[j]? = some e → lt e x = true) ∧ ∀ (j : Nat) e, i ≤ j → es[j]? = some e → lt e x = false

/-- A node that rises: its entries rise, so do its children; all of child i is between the entries beside it. -/
theorem srt_parts {cs : List (List α)} {es : List α} (h : cs.length = es.length + 1) (hs : Srt lt (weave cs es)) {i : Nat} {c : List α} (hc : cs[i]? = some c) :
    Srt lt c ∧ (∀ y ∈ preW cs es i, ∀ z ∈ c, lt y z = true) ∧ (∀ y ∈ c, ∀ z ∈ postW cs es i, lt y z = true) ∧ Srt lt (preW cs es i) ∧ Srt lt (postW cs es i) := by
  rw [weave_at cs es i c h hc] at hs
  obtain ⟨h1, h2, h3⟩ := srt_app.mp hs
  obtain ⟨h4, h5, h6⟩ := srt_app.mp h2
  exact ⟨h4, fun y hy z hz => h3 y hy z (List.mem_append.mpr (.inl hz)), h6, h1, h5⟩

theorem srt_entries : ∀ {cs : List (List α)} {es : List α}, cs.length = es.length + 1 → Srt lt (weave cs es) → Srt lt es
  | [], _, h, _ => by simp at h
  | [_], [], _, _ => Srt.nil
  | _ :: _ :: _, [], h, _ => by simp at h
  | c :: cs, e :: es, h, hs => by
      have hl : cs.length = es.length + 1 := by simpa using h
      rw [weave] at hs
      obtain ⟨_, h2, _⟩ := srt_app.mp hs
      obtain ⟨h3, h4⟩ := srt_cons.mp h2
      refine srt_cons.mpr ⟨fun y hy => h3 y ?_, srt_entries hl h4⟩
      exact (mem_weave hl).mpr (.inl hy)

/-- All that stands ahead of where x belongs is less. -/
theorem pre_less (o : SLO lt) {cs : List (List α)} {es : List α} (h : cs.length = es.length + 1) (hs : Srt lt (weave cs es)) {x : α} : ∀ i, i ≤ es.length → (∀ (j : Nat) e, j < i → es[j]? = some e → lt e x = true) → ∀ y ∈ preW cs es i, lt y x = true
  | 0, _, _, y, hy => by simp [preW] at hy
  | i + 1, hi, hx, y, hy => by
      obtain ⟨c, hc⟩ : ∃ c, cs[i]? = some c := ⟨cs[i]'(by omega), by simp⟩
      obtain ⟨d, hd⟩ : ∃ d, cs[i + 1]? = some d := ⟨cs[i + 1]'(by omega), by simp⟩
      obtain ⟨e, he⟩ : ∃ e, es[i]? = some e := ⟨es[i]'(by omega), by simp⟩
      have hex := hx i e (Nat.lt_succ_self i) he
      rw [preW_succ cs es i c e hc he] at hy
      rcases List.mem_append.mp hy with hy | hy
      · exact pre_less o h hs i (by omega) (fun j e hj => hx j e (by omega)) y hy
      · rcases List.mem_append.mp hy with hy | hy
        · rw [weave_entry cs es i c d e h hc hd he] at hs
          obtain ⟨_, _, h3⟩ := srt_app.mp hs
          exact o.trans (h3 y (List.mem_append.mpr (.inr hy)) e (List.mem_cons_self ..)) hex
        · have : y = e := by simpa using hy
          subst this
          exact hex

/-- All that stands behind where x belongs is more (if the entry there is not x). -/
theorem post_more (o : SLO lt) {cs : List (List α)} {es : List α} (h : cs.length = es.length + 1) (hs : Srt lt (weave cs es)) {x : α} : ∀ (k i : Nat), i + k = es.length → (∀ (j : Nat) e, i ≤ j → es[j]? = some e → lt x e = true) → ∀ y ∈ postW cs es i, lt x y = true
  | 0, i, hi, _, y, hy => by
      have : postW cs es i = [] := by
        unfold postW
        rw [List.drop_of_length_le (by omega : es.length ≤ i)]
        rfl
      rw [this] at hy
      simp at hy
  | k + 1, i, hi, hx, y, hy => by
      obtain ⟨c, hc⟩ : ∃ c, cs[i]? = some c := ⟨cs[i]'(by omega), by simp⟩
      obtain ⟨d, hd⟩ : ∃ d, cs[i + 1]? = some d := ⟨cs[i + 1]'(by omega), by simp⟩
      obtain ⟨e, he⟩ : ∃ e, es[i]? = some e := ⟨es[i]'(by omega), by simp⟩
      have hex := hx i e (Nat.le_refl i) he
      rw [postW_succ cs es i d e hd he] at hy
      rcases List.mem_cons.mp hy with rfl | hy
      · exact hex
      · rcases List.mem_append.mp hy with hy | hy
        · rw [weave_entry cs es i c d e h hc hd he] at hs
          obtain ⟨_, h2, _⟩ := srt_app.mp hs
          obtain ⟨h3, _⟩ := srt_cons.mp h2
          exact o.trans hex (h3 y (List.mem_append.mpr (.inl hy)))
        · exact post_more o h hs k (i + 1) (by omega) (fun j e hj => hx j e (by omega)) y hy

theorem here_more (o : SLO lt) {es : List α} {x : α} {i : Nat} (hs : Srt lt es) (hh : Here lt es x i) (hne : es[i]? ≠ some x) : ∀ (j : Nat) e, i ≤ j → es[j]? = some e → lt x e = true := by
  intro j e hj he
  have h1 := hh.2.2 j e hj he
  rcases o.tri x e with h | rfl | h
  · exact h
  · rcases Nat.eq_or_lt_of_le hj with rfl | hlt
    · exact absurd he hne
    · obtain ⟨h2, h2'⟩ := List.getElem?_eq_some_iff.mp he
      have h3 : i < es.length := by omega
      have h4 : es[i]? = some es[i] := by simp
      have h5 : lt es[i] x = true := by
        have := List.pairwise_iff_getElem.mp hs i j h3 h2 hlt
        rwa [h2'] at this
      rw [hh.2.2 i _ (Nat.le_refl i) h4] at h5
      cases h5
  · rw [h] at h1; cases h1

section
variable [DecidableEq α]

/-- What is put goes into the child where it belongs. -/
theorem ins_child (o : SLO lt) {cs : List (List α)} {es : List α} (h : cs.length = es.length + 1) (hs : Srt lt (weave cs es)) {x : α} {i : Nat} {c : List α} (hh : Here lt es x i) (hne : es[i]? ≠ some x) (hc : cs[i]? = some c) :
    insS lt x (weave cs es) = preW cs es i ++ (insS lt x c ++ postW cs es i) := by
  rw [weave_at cs es i c h hc]
  exact insS_mid o x _ _ _ (pre_less o h hs i hh.1 hh.2.1) (post_more o h hs (es.length - i) i (by have := hh.1; omega) (here_more o (srt_entries h hs) hh hne))

/-- What is taken away goes out of the child where it belongs. -/
theorem del_child (o : SLO lt) {cs : List (List α)} {es : List α} (h : cs.length = es.length + 1) (hs : Srt lt (weave cs es)) {x : α} {i : Nat} {c : List α} (hh : Here lt es x i) (hne : es[i]? ≠ some x) (hc : cs[i]? = some c) :
    delS x (weave cs es) = preW cs es i ++ (delS x c ++ postW cs es i) := by
  rw [weave_at cs es i c h hc]
  refine delS_mid _ _ _ (fun hx => ?_) (fun hx => ?_)
  · have := pre_less o h hs i hh.1 hh.2.1 x hx
    rw [o.irrefl] at this; cases this
  · have := post_more o h hs (es.length - i) i (by have := hh.1; omega) (here_more o (srt_entries h hs) hh hne) x hx
    rw [o.irrefl] at this; cases this

omit [DecidableEq α] in
/-- It is there just if it is in the child where it belongs. -/
theorem mem_child (o : SLO lt) {cs : List (List α)} {es : List α} (h : cs.length = es.length + 1) (hs : Srt lt (weave cs es)) {x : α} {i : Nat} {c : List α} (hh : Here lt es x i) (hne : es[i]? ≠ some x) (hc : cs[i]? = some c) :
    x ∈ weave cs es ↔ x ∈ c := by
  rw [weave_at cs es i c h hc, List.mem_append, List.mem_append]
  constructor
  · rintro (hx | hx | hx)
    · have := pre_less o h hs i hh.1 hh.2.1 x hx
      rw [o.irrefl] at this; cases this
    · exact hx
    · have := post_more o h hs (es.length - i) i (by have := hh.1; omega) (here_more o (srt_entries h hs) hh hne) x hx
      rw [o.irrefl] at this; cases this
  · exact fun hx => .inr (.inl hx)

/-- An entry of a node itself, taken away: its children's ends meet. -/
theorem del_entry (o : SLO lt) {cs : List (List α)} {es : List α} (h : cs.length = es.length + 1) (hs : Srt lt (weave cs es)) {x : α} {i : Nat} {c d : List α} (hc : cs[i]? = some c) (hd : cs[i + 1]? = some d) (hx : es[i]? = some x) :
    delS x (weave cs es) = (preW cs es i ++ c) ++ (d ++ postW cs es (i + 1)) := by
  rw [weave_entry cs es i c d x h hc hd hx] at hs ⊢
  exact delS_at o hs

/-- The same, as the greatest of what stands ahead put into its place. -/
theorem del_entry_last (o : SLO lt) {cs : List (List α)} {es : List α} (h : cs.length = es.length + 1) (hs : Srt lt (weave cs es)) {x : α} {i : Nat} {c d : List α} {y : α} (hc : cs[i]? = some (c ++ [y])) (hd : cs[i + 1]? = some d) (hx : es[i]? = some x) :
    delS x (weave cs es) = weave (cs.set i c) (es.set i y) := by
  have h1 := (List.getElem?_eq_some_iff.mp hc).1
  have h2 := (List.getElem?_eq_some_iff.mp hx).1
  rw [del_entry o h hs hc hd hx]
  rw [weave_entry (cs.set i c) (es.set i y) i c d y (by simpa using h) (by simp [h1]) (by rw [List.getElem?_set_ne (by omega)]; exact hd) (by simp [h2])]
  have e1 : preW (cs.set i c) (es.set i y) i = preW cs es i := by
    unfold preW
    rw [List.take_set_of_le (Nat.le_refl i), List.take_set_of_le (Nat.le_refl i)]
  have e2 : postW (cs.set i c) (es.set i y) (i + 1) = postW cs es (i + 1) := by
    unfold postW
    rw [List.drop_set_of_lt (by omega), List.drop_set_of_lt (by omega)]
  rw [e1, e2]
  simp
end
end

end Go.Proofs.Ytfikaccgpjiedaa

