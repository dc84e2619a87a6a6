/-
  What is of no program: lists in a strict order, what is put into them and taken away (stage 7; over any type with a strict order).
-/
namespace Go.Proofs.Ytfikaccgpjiedaa

/-- A strict linear order, as a function. -/
structure SLO {α : Type} (lt : α → α → Bool) : Prop where
  irrefl : ∀ a, lt a a = false
  trans : ∀ {a b c}, lt a b = true → lt b c = true → lt a c = true
  tri : ∀ a b, lt a b = true ∨ a = b ∨ lt b a = true

section
variable {α : Type} [DecidableEq α] {lt : α → α → Bool}

omit [DecidableEq α] in
theorem SLO.asymm (o : SLO lt) {a b : α} (h : lt a b = true) : lt b a = false := by
  cases h2 : lt b a with
  | false => rfl
  | true => have := o.trans h h2; rw [o.irrefl] at this; cases this

omit [DecidableEq α] in
theorem SLO.ne (o : SLO lt) {a b : α} (h : lt a b = true) : a ≠ b := by
  rintro rfl
  rw [o.irrefl] at h
  cases h

/-- The list rises, each once. -/
def Srt (lt : α → α → Bool) (l : List α) : Prop := l.Pairwise fun a b => lt a b = true

omit [DecidableEq α] in
theorem Srt.nil : Srt lt ([] : List α) := List.Pairwise.nil
omit [DecidableEq α] in
theorem srt_cons {x : α} {l : List α} : Srt lt (x :: l) ↔ (∀ y ∈ l, lt x y = true) ∧ Srt lt l := List.pairwise_cons
omit [DecidableEq α] in
theorem srt_app {l m : List α} : Srt lt (l ++ m) ↔ Srt lt l ∧ Srt lt m ∧ ∀ x ∈ l, ∀ y ∈ m, lt x y = true := List.pairwise_append

def insS (lt : α → α → Bool) (x : α) : List α → List α
  | [] => [x]
  | y :: l => if lt y x = true then y :: insS lt x l else if y = x then y :: l else x :: y :: l

def delS (x : α) (l : List α) : List α := l.filter fun y => decide (y ≠ x)

theorem mem_insS (x z : α) : ∀ l : List α, z ∈ insS lt x l ↔ z = x ∨ z ∈ l
  | [] => by simp [insS]
  | y :: l => by
      unfold insS
      split
      · simp only [List.mem_cons, mem_insS x z l]
        constructor
        · rintro (h | h | h) <;> simp [h]
        · rintro (h | h | h) <;> simp [h]
      · split
        · next h => subst h; simp
        · simp

theorem mem_delS {x z : α} {l : List α} : z ∈ delS x l ↔ z ∈ l ∧ z ≠ x := by simp [delS]

theorem srt_insS (o : SLO lt) (x : α) : ∀ {l : List α}, Srt lt l → Srt lt (insS lt x l)
  | [], _ => by simp [insS, Srt]
  | y :: l, h => by
      have ⟨h1, h2⟩ := srt_cons.mp h
      unfold insS
      split
      · next hy =>
        refine srt_cons.mpr ⟨fun z hz => ?_, srt_insS o x h2⟩
        rcases (mem_insS x z l).mp hz with rfl | hz
        · exact hy
        · exact h1 z hz
      · next hy =>
        split
        · exact h
        · next hne =>
          have hxy : lt x y = true := by
            rcases o.tri y x with h3 | h3 | h3
            · exact absurd h3 hy
            · exact absurd h3 hne
            · exact h3
          refine srt_cons.mpr ⟨fun z hz => ?_, h⟩
          rcases List.mem_cons.mp hz with rfl | hz
          · exact hxy
          · exact o.trans hxy (h1 z hz)

theorem srt_delS {x : α} {l : List α} (h : Srt lt l) : Srt lt (delS x l) := List.Pairwise.filter _ h

omit [DecidableEq α] in
theorem Srt.nodup (o : SLO lt) {l : List α} (h : Srt lt l) : l.Nodup := h.imp fun h => o.ne h

omit [DecidableEq α] in
/-- Two that rise, of the same elements, are one. -/
theorem srt_ext (o : SLO lt) : ∀ {l m : List α}, Srt lt l → Srt lt m → (∀ x, x ∈ l ↔ x ∈ m) → l = m
  | [], [], _, _, _ => rfl
  | [], y :: m, _, _, h => by have := (h y).mpr (List.mem_cons_self ..); simp at this
  | x :: l, [], _, _, h => by have := (h x).mp (List.mem_cons_self ..); simp at this
  | x :: l, y :: m, hl, hm, h => by
      have ⟨h1, h2⟩ := srt_cons.mp hl
      have ⟨h3, h4⟩ := srt_cons.mp hm
      have hxy : x = y := by
        rcases List.mem_cons.mp ((h x).mp (List.mem_cons_self ..)) with e | hx
        · exact e
        · rcases List.mem_cons.mp ((h y).mpr (List.mem_cons_self ..)) with e | hy
          · exact e.symm
          · have := o.asymm (h3 x hx)
            rw [h1 y hy] at this
            cases this
      subst hxy
      congr 1
      refine srt_ext o h2 h4 fun z => ?_
      constructor
      · intro hz
        rcases List.mem_cons.mp ((h z).mp (List.mem_cons_of_mem _ hz)) with e | hz'
        · subst e; exact absurd (h1 z hz) (by rw [o.irrefl]; simp)
        · exact hz'
      · intro hz
        rcases List.mem_cons.mp ((h z).mpr (List.mem_cons_of_mem _ hz)) with e | hz'
        · subst e; exact absurd (h3 z hz) (by rw [o.irrefl]; simp)
        · exact hz'

theorem insS_left (x : α) : ∀ (p r : List α), (∀ y ∈ p, lt y x = true) → insS lt x (p ++ r) = p ++ insS lt x r
  | [], _, _ => rfl
  | y :: p, r, h => by
      rw [List.cons_append, insS, if_pos (h y (List.mem_cons_self ..)), insS_left x p r fun z hz => h z (List.mem_cons_of_mem _ hz)]
      rfl

theorem insS_front (o : SLO lt) (x : α) (q : List α) (h : ∀ y ∈ q, lt x y = true) : insS lt x q = x :: q := by
  cases q with
  | nil => rfl
  | cons y q =>
    have hy := h y (List.mem_cons_self ..)
    rw [insS, if_neg (by rw [o.asymm hy]; simp), if_neg (fun e => o.ne hy e.symm)]

theorem insS_right (o : SLO lt) (x : α) : ∀ (m q : List α), (∀ y ∈ q, lt x y = true) → insS lt x (m ++ q) = insS lt x m ++ q
  | [], q, h => by rw [List.nil_append, insS_front o x q h]; rfl
  | y :: m, q, h => by
      rw [List.cons_append, insS, insS]
      split
      · rw [insS_right o x m q h]; rfl
      · split <;> rfl

/-- What is put between what is less and what is more. -/
theorem insS_mid (o : SLO lt) (x : α) (p m q : List α) (hp : ∀ y ∈ p, lt y x = true) (hq : ∀ y ∈ q, lt x y = true) : insS lt x (p ++ (m ++ q)) = p ++ (insS lt x m ++ q) := by
  rw [insS_left x p _ hp, insS_right o x m q hq]

theorem insS_has (o : SLO lt) {x : α} : ∀ {l : List α}, Srt lt l → x ∈ l → insS lt x l = l
  | [], _, h => by simp at h
  | y :: l, h, hx => by
      have ⟨h1, h2⟩ := srt_cons.mp h
      rcases List.mem_cons.mp hx with rfl | hx
      · rw [insS, if_neg (by rw [o.irrefl]; simp), if_pos rfl]
      · rw [insS, if_pos (h1 x hx), insS_has o h2 hx]

theorem length_insS (x : α) : ∀ l : List α, x ∉ l → (insS lt x l).length = l.length + 1
  | [], _ => rfl
  | y :: l, h => by
      have ⟨h1, h2⟩ : x ≠ y ∧ x ∉ l := by simpa using h
      unfold insS
      split
      · simp [length_insS x l h2]
      · rw [if_neg (Ne.symm h1)]
        simp

theorem delS_app (x : α) (l m : List α) : delS x (l ++ m) = delS x l ++ delS x m := by simp [delS]

theorem delS_none {x : α} {l : List α} (h : x ∉ l) : delS x l = l := by
  unfold delS
  rw [List.filter_eq_self]
  intro y hy
  simp only [decide_eq_true_eq]
  rintro rfl
  exact h hy

theorem delS_mid {x : α} (p m q : List α) (hp : x ∉ p) (hq : x ∉ q) : delS x (p ++ (m ++ q)) = p ++ (delS x m ++ q) := by
  rw [delS_app, delS_app, delS_none hp, delS_none hq]

theorem delS_at (o : SLO lt) {x : α} {p q : List α} (h : Srt lt (p ++ x :: q)) : delS x (p ++ x :: q) = p ++ q := by
  have ⟨_, h2, h3⟩ := srt_app.mp h
  have ⟨h4, _⟩ := srt_cons.mp h2
  rw [delS_app, delS_none (fun hx => by have := h3 x hx x (List.mem_cons_self ..); rw [o.irrefl] at this; cases this)]
  congr 1
  have : delS x (x :: q) = delS x q := by simp [delS]
  rw [this, delS_none (fun hx => by have := h4 x hx; rw [o.irrefl] at this; cases this)]

theorem length_delS (o : SLO lt) {x : α} {l : List α} (h : Srt lt l) (hx : x ∈ l) : (delS x l).length + 1 = l.length := by
  obtain ⟨p, q, rfl⟩ := List.append_of_mem hx
  rw [delS_at o h]
  simp
  omega

/-- All that is put, one behind the other. -/
def allS (lt : α → α → Bool) (l : List α) : List α := l.foldl (fun t x => insS lt x t) []

theorem foldl_insS (o : SLO lt) : ∀ (l t : List α), Srt lt t → Srt lt (l.foldl (fun t x => insS lt x t) t) ∧ ∀ z, z ∈ l.foldl (fun t x => insS lt x t) t ↔ z ∈ l ∨ z ∈ t
  | [], t, h => ⟨h, fun z => by simp⟩
  | x :: l, t, h => by
      have ⟨h1, h2⟩ := foldl_insS o l (insS lt x t) (srt_insS o x h)
      refine ⟨h1, fun z => ?_⟩
      rw [List.foldl_cons, h2 z, mem_insS, List.mem_cons]
      constructor
      · rintro (h | h | h) <;> simp [h]
      · rintro ((h | h) | h) <;> simp [h]

theorem srt_allS (o : SLO lt) (l : List α) : Srt lt (allS lt l) := (foldl_insS o l [] Srt.nil).1
theorem mem_allS (o : SLO lt) {l : List α} {z : α} : z ∈ allS lt l ↔ z ∈ l := by
  have := (foldl_insS o l [] Srt.nil).2 z
  simpa [allS] using this

/-- Put in whatever row they are the same. -/
theorem allS_same (o : SLO lt) {l m : List α} (h : ∀ x, x ∈ l ↔ x ∈ m) : allS lt l = allS lt m :=
  srt_ext o (srt_allS o l) (srt_allS o m) fun x => by rw [mem_allS o, mem_allS o]; exact h x

/-- Taken away in whatever row none is left. -/
theorem foldl_delS (l : List α) : ∀ (m : List α), (∀ x ∈ m, x ∈ l) → l.foldl (fun t x => delS x t) m = [] := by
  induction l with
  | nil => intro m h; cases m with
           | nil => rfl
           | cons x m => have := h x (List.mem_cons_self ..); simp at this
  | cons x l ih =>
    intro m h
    rw [List.foldl_cons]
    refine ih _ fun y hy => ?_
    have ⟨h1, h2⟩ := mem_delS.mp hy
    rcases List.mem_cons.mp (h y h1) with e | h3
    · exact absurd e h2
    · exact h3

omit [DecidableEq α] in
/-- Two halves of what rises. -/
theorem two_parts (p : α → Bool) : ∀ {l : List α}, Srt lt l → (∀ a b, lt a b = true → p b = true → p a = true) → l.filter p ++ l.filter (fun x => !p x) = l
  | [], _, _ => rfl
  | x :: l, h, hp => by
      have ⟨h1, h2⟩ := srt_cons.mp h
      have ih := two_parts p h2 hp
      cases hx : p x with
      | true => simp only [List.filter_cons, hx, if_true, Bool.not_true, Bool.false_eq_true, if_false, List.cons_append]; rw [ih]
      | false =>
        have hall : ∀ y ∈ l, p y = false := fun y hy => by
          cases hy2 : p y with
          | false => rfl
          | true => have := hp x y (h1 y hy) hy2; rw [hx] at this; cases this
        have e1 : l.filter p = [] := List.filter_eq_nil_iff.mpr fun y hy => by rw [hall y hy]; simp
        have e2 : l.filter (fun x => !p x) = l := List.filter_eq_self.mpr fun y hy => by rw [hall y hy]; rfl
        simp only [List.filter_cons, hx, Bool.false_eq_true, if_false, Bool.not_false, if_true]
        rw [e1, e2]
        rfl
end

end Go.Proofs.Ytfikaccgpjiedaa

