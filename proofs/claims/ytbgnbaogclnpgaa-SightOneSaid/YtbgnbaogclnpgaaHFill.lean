/-
  A version is put into a slot; Put (stage 11).
-/
import Derived.Test.YtbgnbaogclnpgaaHEnter
namespace Go.Proofs.Ytbgnbaogclnpgaa
open Go.RowKit
set_option linter.unusedVariables false

theorem info_p : (Try.prog.info? 91).map (fun i => (i.zero, i.size, i.bytes)) = some (some (.pointer none), 1, 8) := by kernel_rfl

/-- One pointer more, at the end of a row of pointers. -/
theorem row_pushP {W : World} {s : Value} {n : Nat} {f : Nat → List Value} (ty : TypeId) (h : RowF 91 1 W s n f) (v : Value) (hv : v.oneCell' = true) (hn : n + 1 ≤ 1000000) :
    ∃ a' c' W6, (Builtin.append_ #[71, 71] ty #[s, .slice (some ⟨W.heap.size, 0, none⟩) 1 1]).run Try.prog (W.alloc (.cells #[v] 91)) = .ok (.slice a' (n + 1) c') W6 ∧
      RowF 91 1 W6 (.slice a' (n + 1) c') (n + 1) (fun j => if j < n then f j else [v]) ∧ Touch (fun k => s.ownBlock = some k) W W6 ∧ (∀ k, Value.ownBlock (.slice a' (n + 1) c') = some k → s.ownBlock = some k ∨ W.heap.size ≤ k) := by
  obtain ⟨i0, hi, hz, hsz, hby⟩ := info_parts info_p
  have hal := Below.allocs W (.cells [v].toArray 91)
  have hlit := Lit.new W 91 [v]
  obtain ⟨s', W6, hrun, hrow, hg, hown⟩ := (h.below hal).append (P := Try.prog) 71 ty i0 _ 8 Try.underlying71 hi hz hsz hby rfl (by decide) (by decide) (b := W.heap.size) (k := 1) (c := 1) (q := fun _ => [v])
    (fun j hj o u hu => by
      obtain rfl : j = 0 := by omega
      rw [Nat.zero_mul, Nat.zero_add]
      exact hlit.cell hu) (fun _ _ => rfl) (fun _ _ u hu => by simp at hu; subst hu; exact hv) (by omega)
  obtain ⟨a', c', rfl, _, _⟩ := hrow.form
  refine ⟨a', c', W6, hrun, hrow, (Touch.of_below hal).trans (Touch.grown hg (fun k hk => hk)) (fun _ _ h => h), fun k hk => ?_⟩
  rcases hown with e | e
  · exact .inl (e ▸ hk)
  · right
    rw [e] at hk
    have : (W.alloc (.cells [v].toArray 91)).heap.size = k := Option.some.inj hk
    simp at this
    omega

/-- M with the version t in slot i. -/
def updT (tup : Nat → Option Tup) (i : Nat) (t : Option Tup) : Nat → Option Tup := fun j => if j = i then t else tup j

/-- A version that is not named yet. -/
structure Fresh (W : World) (L : Nat → Lab) (N g : Nat) (t : Tup) (s : Value) : Prop where
  ver : Ver W N g t s
  no : ∀ k, N ≤ k → L k = .no

theorem Fresh.below {W W' : World} {L : Nat → Lab} {N g : Nat} {t : Tup} {s : Value} (h : Fresh W L N g t s) (hb : Below W.heap.size W W') : Fresh W' L N g t s := ⟨h.ver.below hb, h.no⟩

/-- A version and its row are named. -/
theorem Fresh.name {W : World} {L : Nat → Lab} {N g i : Nat} {t : Tup} {s : Value} (h : Fresh W L N g t s) (hlt : ∀ k, L k ≠ .no → k < W.heap.size) :
    ∃ L', Ext N L L' ∧ TupAt W L' g i t ∧ (∀ k, L' k ≠ .no → k < W.heap.size) ∧ ∀ k, L' k ≠ .no → L k = .no → k = g ∨ s.ownBlock = some k := by
  have hg := h.no g h.ver.ge
  have e1 : Ext N L (setL L g (.tu i)) := Ext.set _ (.inl hg) h.ver.ge
  cases hs : s.ownBlock with
  | none =>
    refine ⟨setL L g (.tu i), e1, ⟨setL_same _ _ _, s, h.ver.lit, h.ver.row, fun k hk => by rw [hs] at hk; cases hk⟩, fun k hk => ?_, fun k hk hk0 => ?_⟩
    · by_cases e : k = g
      · rw [e]; exact h.ver.lit.lt
      · rw [setL_ne _ _ e] at hk; exact hlt k hk
    · by_cases e : k = g
      · exact .inl e
      · rw [setL_ne _ _ e] at hk; exact absurd hk0 hk
  | some k0 =>
    obtain ⟨h1, h2⟩ := h.ver.own k0 hs
    have e2 : Ext N (setL L g (.tu i)) (setL (setL L g (.tu i)) k0 .rw) := Ext.set _ (.inl (by rw [setL_ne _ _ h2]; exact h.no k0 h1)) h1
    refine ⟨setL (setL L g (.tu i)) k0 .rw, e1.trans e2, ⟨by rw [setL_ne _ _ (fun e => h2 e.symm), setL_same], s, h.ver.lit, h.ver.row, fun k hk => by rw [hs] at hk; rw [← Option.some.inj hk, setL_same]⟩, fun k hk => ?_, fun k hk hk0 => ?_⟩
    · by_cases e : k = k0
      · rw [e]; exact h.ver.row.lt k0 hs
      · rw [setL_ne _ _ e] at hk
        by_cases e : k = g
        · rw [e]; exact h.ver.lit.lt
        · rw [setL_ne _ _ e] at hk; exact hlt k hk
    · by_cases e : k = k0
      · exact .inr (by rw [e])
      · rw [setL_ne _ _ e] at hk
        by_cases e : k = g
        · exact .inl e
        · rw [setL_ne _ _ e] at hk; exact absurd hk0 hk

theorem ptrO_one (t : Option Tup) (g : Nat) : (ptrO t g).oneCell' = true := by cases t <;> rfl

/-- The version goes into a slot that is there. -/
theorem SlP.put {W : World} {L L' : Nat → Lab} {n b c N g i : Nat} {tup : Nat → Option Tup} {tp : Nat → Nat} {t : Tup} (h : SlP W L (.slice (some ⟨b, 0, none⟩) n c) n tup tp) (hi : i < n) (he : Ext N L L') (ht : TupAt W L' g i t) :
    SlP (W.setCell ⟨b, i, none⟩ (ptrV g)) L' (.slice (some ⟨b, 0, none⟩) n c) n (updT tup i (some t)) (fun j => if j = i then g else tp j) ∧ Touch (fun k => L k = .sl) W (W.setCell ⟨b, i, none⟩ (ptrV g)) := by
  have hbL := h.own b rfl
  have hset := Touch.setCell W (F := fun k => k = b) rfl i (ptrV g)
  have hst := hset.stay (G := fun k => L' k ≠ .sl) (fun k hk e => hk (by rw [e]; exact he.keep hbL (by simp)))
  refine ⟨⟨((h.row.set (b := b) (c := 0) rfl hi (by omega) (by omega) (ptrV g)).congr fun j hj => ?_), fun k hk => he.keep (h.own k hk) (by simp), fun j t' hj ht' => ?_⟩, hset.mono (fun k hk => by rw [hk]; exact hbL)⟩
  · unfold updR updT
    by_cases e : j = i
    · simp only [e, if_true]; rfl
    · simp only [if_neg e]
  · unfold updT at ht'
    by_cases e : j = i
    · subst e
      simp only [if_true] at ht' ⊢
      rw [← Option.some.inj ht']
      exact ht.stay hst (by rw [ht.1]; simp) (fun k hk => by rw [hk]; simp)
    · simp only [if_neg e] at ht' ⊢
      have := (h.at' j t' hj ht').ext he
      exact this.stay hst (by rw [this.1]; simp) (fun k hk => by rw [hk]; simp)

/-- What fill leaves, and the slot. -/
def Hp.more (M : Hp) (t : Tup) : Hp := { M with n := M.n + 1, tup := updT M.tup M.n (some t) }
def Hp.fillT (M : Hp) (m : Nat) (fr : Nat → Nat) (t : Tup) : Hp := { M with tup := updT M.tup (M.fr 0) (some t), fn := m, fr := fr }

theorem stay_of {W W' : World} {L : Nat → Lab} {X : Lab → Prop} (ht : Touch (fun k => X (L k)) W W') : Stay (fun k => ¬ X (L k)) W W' := ht.stay (fun k hk e => hk e)

/-- The end, where a slot is used anew. -/
theorem fill_old {w w1 : World} {h z N g m : Nat} {M : Hp} {L : Nat → Lab} {t : Tup} {f mv f' sv : Value} {stp fr' : Nat → Nat} {b c : Nat} (H : HpM w h M z L) (hN : N ≤ w.heap.size) (hl : Lit w h 75 [.slice (some ⟨b, 0, none⟩) M.n c, f, mv]) (hs : SlP w L (.slice (some ⟨b, 0, none⟩) M.n c) M.n M.tup stp) (hf : FrP w L f M.fn M.fr) (htb : TsP w L z mv M.tb)
    (hfn : M.fn = m + 1) (hi : M.fr 0 < M.n) (hF : Fresh w L N g t sv) (hk1 : FrS w1 h (.slice (some ⟨b, 0, none⟩) M.n c) mv f' m fr') (ht1 : Touch (fun k => k = h ∨ f.ownBlock = some k) w w1) (ho1 : f'.ownBlock = f.ownBlock) :
    ∃ L', HpM (w1.setCell ⟨b, M.fr 0, none⟩ (ptrV g)) h (M.fillT m fr' t) z L' ∧ Ext N L L' ∧ Touch (Fof L) w (w1.setCell ⟨b, M.fr 0, none⟩ (ptrV g)) := by
  have hnoH : h < N := by
    rcases Nat.lt_or_ge h N with hh | hh
    · exact hh
    · have := hF.no h hh; rw [H.hp] at this; cases this
  have ht1' : Touch (fun k => L k = .hp ∨ L k = .fr) w w1 := ht1.mono (fun k hk => hk.elim (fun e => .inl (by rw [e]; exact H.hp)) (fun e => .inr (hf.own k e)))
  have hst := ht1'.stay (G := fun k => L k ≠ .hp ∧ L k ≠ .fr) (fun k hk e => e.elim hk.1 hk.2)
  have hs1 := hs.stay hst (fun k hk => ⟨(by intro e; rw [e] at hk; cases hk), (by intro e; rw [e] at hk; cases hk)⟩)
  have htb1 := htb.stay hst (fun k hk => ⟨(by intro e; rw [e] at hk; cases hk), (by intro e; rw [e] at hk; cases hk)⟩)
  have hv1 : Ver w1 N g t sv := hF.ver.stay hst (fun k hk _ => by rw [hF.no k hk]; exact ⟨by simp, by simp⟩)
  have hlt1 : ∀ k, L k ≠ .no → k < w1.heap.size := fun k hk => Nat.lt_of_lt_of_le (H.lt k hk) ht1.size
  obtain ⟨L', he, hta, hlt', -⟩ := Fresh.name (i := M.fr 0) (⟨hv1, hF.no⟩ : Fresh w1 L N g t sv) hlt1
  obtain ⟨hs2, ht2⟩ := hs1.put hi he hta
  have hst2 := ht2.stay (G := fun k => L k ≠ .sl) (fun k hk e => hk e)
  have hbn : ∀ k, f'.ownBlock = some k → L k = .fr := fun k hk => hf.own k (by rw [← ho1]; exact hk)
  refine ⟨L', ⟨fun k hk => Nat.lt_of_lt_of_le (hlt' k hk) ht2.size, he.keep H.hp (by simp), H.nz, by have := H.fz; show m ≤ z; omega, _, f', mv, _, hk1.lit.stay hst2 (by rw [H.hp]; simp), hs2, ⟨hk1.row.stay hst2 (fun k hk => by rw [hbn k hk]; simp), fun k hk => he.keep (hbn k hk) (by simp)⟩, (htb1.stay hst2 (fun k hk => by intro e; rw [e] at hk; cases hk)).ext he⟩, he, (ht1'.mono (fun k hk => by unfold Fof; rcases hk with e | e <;> rw [e] <;> simp)).trans ht2 (fun k _ hk => by unfold Fof; rw [hk]; simp)⟩

/-- The end, where there is a slot more. -/
theorem fill_new {w : World} {h z N g n : Nat} {M : Hp} {L : Nat → Lab} {t : Tup} {s f mv sv : Value} {stp : Nat → Nat} (H : HpM w h M z L) (hz : z ≤ 100000) (hN : N ≤ w.heap.size) (hn : M.n = n) (hl : Lit w h 75 [s, f, mv]) (hs : SlP w L s n M.tup stp) (hf : FrP w L f M.fn M.fr) (htb : TsP w L z mv M.tb)
    (hF : Fresh w L N g t sv) :
    ∃ a' c' W6, (∀ ty, (Builtin.append_ #[71, 71] ty #[s, .slice (some ⟨w.heap.size, 0, none⟩) 1 1]).run Try.prog (w.alloc (.cells #[ptrV g] 91)) = .ok (.slice a' (n + 1) c') W6) ∧ Lit W6 h 75 [s, f, mv] ∧
      Lit (W6.setCell ⟨h, 0, none⟩ (.slice a' (n + 1) c')) h 75 [.slice a' (n + 1) c', f, mv] ∧
      ∃ L', HpM (W6.setCell ⟨h, 0, none⟩ (.slice a' (n + 1) c')) h (M.more t) (z + 1) L' ∧ Ext N L L' ∧ Touch (Fof L) w (W6.setCell ⟨h, 0, none⟩ (.slice a' (n + 1) c')) := by
  obtain ⟨a', c', W6, hrun, hrow, ht6, hown6⟩ := row_pushP 71 hs.row (ptrV g) rfl (by have := H.nz; omega)
  have ht6' : Touch (fun k => L k = .sl) w W6 := ht6.mono (fun k hk => hs.own k hk)
  have hst6 := ht6'.stay (G := fun k => L k ≠ .sl) (fun k hk e => hk e)
  have hl6 := hl.stay hst6 (by rw [H.hp]; simp)
  have hset := Touch.setCell W6 (F := fun k => k = h) rfl 0 (.slice a' (n + 1) c')
  have hset' : Touch (fun k => L k = .hp) W6 (W6.setCell ⟨h, 0, none⟩ (.slice a' (n + 1) c')) := hset.mono (fun k hk => by rw [hk]; exact H.hp)
  have hst7 := hset'.stay (G := fun k => L k ≠ .hp) (fun k hk e => hk e)
  have hsz6 := ht6.size
  have hszs := hset.size
  have hlt6 : ∀ k, L k ≠ .no → k < (W6.setCell ⟨h, 0, none⟩ (.slice a' (n + 1) c')).heap.size := fun k hk => by have := H.lt k hk; omega
  have hv6 : Ver (W6.setCell ⟨h, 0, none⟩ (.slice a' (n + 1) c')) N g t sv := (hF.ver.stay hst6 (fun k hk _ => by rw [hF.no k hk]; simp)).stay hst7 (fun k hk _ => by rw [hF.no k hk]; simp)
  obtain ⟨L1, he1, hta, hlt1, hnew⟩ := Fresh.name (i := n) (⟨hv6, hF.no⟩ : Fresh _ L N g t sv) hlt6
  have hgl := hF.ver.lit.lt
  -- the new row's block
  obtain ⟨L', he2, hL', hlt'⟩ : ∃ L', Ext N L1 L' ∧ (∀ k, Value.ownBlock (.slice a' (n + 1) c') = some k → L' k = .sl) ∧ ∀ k, L' k ≠ .no → k < (W6.setCell ⟨h, 0, none⟩ (.slice a' (n + 1) c')).heap.size := by
    cases hb' : Value.ownBlock (.slice a' (n + 1) c') with
    | none => exact ⟨L1, Ext.refl _ _, fun k hk => (by cases hk), hlt1⟩
    | some k0 =>
      have hk0 := hrow.lt k0 hb'
      rcases hown6 k0 hb' with e | e
      · exact ⟨L1, Ext.refl _ _, fun k hk => by rw [← Option.some.inj hk]; exact he1.keep (hs.own k0 e) (by simp), hlt1⟩
      · have hL1 : L1 k0 = .no := by
          by_cases e0 : L1 k0 = .no
          · exact e0
          · have h0 : L k0 = .no := by
              by_cases e1 : L k0 = .no
              · exact e1
              · have := H.lt k0 e1; omega
            rcases hnew k0 e0 h0 with e2 | e2
            · omega
            · have := hF.ver.row.lt k0 e2; omega
        refine ⟨setL L1 k0 .sl, Ext.set _ (.inl hL1) (by omega), fun k hk => by rw [← Option.some.inj hk, setL_same], fun k hk => ?_⟩
        by_cases ek : k = k0
        · omega
        · rw [setL_ne _ _ ek] at hk; exact hlt1 k hk
  have he := he1.trans he2
  have hne : ∀ k, Value.ownBlock (.slice a' (n + 1) c') = some k → k ≠ h := fun k hk => by
    rcases hown6 k hk with e | e
    · rintro rfl; have := hs.own k e; rw [H.hp] at this; cases this
    · have := hl.lt; omega
  have hlit7 : Lit (W6.setCell ⟨h, 0, none⟩ (.slice a' (n + 1) c')) h 75 [.slice a' (n + 1) c', f, mv] := hl6.set 0 _
  refine ⟨a', c', W6, fun ty => hrun, hl6, hlit7, L', ⟨hlt', he.keep H.hp (by simp), by show M.n + 1 ≤ z + 1; have := H.nz; omega, Nat.le_succ_of_le H.fz, .slice a' (n + 1) c', f, mv, fun j => if j = n then g else stp j, hlit7, ⟨?_, hL', fun j t' hj ht' => ?_⟩, ((hf.stay hst6 (fun k hk => by rw [hk]; simp)).stay hst7 (fun k hk => by rw [hk]; simp)).ext he, (((htb.stay hst6 (fun k hk => by intro e; rw [e] at hk; cases hk)).stay hst7 (fun k hk => by intro e; rw [e] at hk; cases hk)).ext he).more (Nat.le_succ z)⟩, he, (ht6'.mono (fun k hk => by unfold Fof; rw [hk]; simp)).trans hset' (fun k _ hk => by unfold Fof; rw [hk]; simp)⟩
  · show RowF 91 1 _ _ (M.n + 1) _
    rw [hn]
    refine (hrow.stay (hset.stay (G := fun k => k ≠ h) (fun k hk e => hk e)) hne).congr fun j hj => ?_
    unfold Hp.more updT
    by_cases e : j = n
    · subst e; simp only [hn, if_true, Nat.lt_irrefl, if_false]; rfl
    · simp only [hn, if_neg e, if_pos (show j < n by omega)]
  · have hj' : j < M.n + 1 := hj
    unfold Hp.more updT at ht'
    by_cases e : j = n
    · subst e
      simp only [hn, if_true] at ht' ⊢
      rw [← Option.some.inj ht']
      exact hta.ext he2
    · simp only [hn, if_neg e] at ht' ⊢
      have h0 := hs.at' j t' (by omega) ht'
      have h1 := h0.stay hst6 (by rw [h0.1]; simp) (fun k hk => by rw [hk]; simp)
      exact (h1.stay hst7 (by rw [h0.1]; simp) (fun k hk => by rw [hk]; simp)).ext he

/-! ### The walks -/

theorem HpM.frs {w : World} {h n : Nat} {L : Nat → Lab} {s f m : Value} {fr : Nat → Nat} (hh : L h = .hp) (hl : Lit w h 75 [s, f, m]) (hf : FrP w L f n fr) : FrS w h s m f n fr :=
  ⟨hl, hf.row, fun k hk e => by have := hf.own k hk; rw [e, hh] at this; cases this⟩

/-- What fill leaves: where no slot is free; where one is. -/
inductive FillR (M : Hp) (t : Tup) : Nat → Hp → Prop
  | new : M.fn = 0 → FillR M t M.n (M.more t)
  | old (m : Nat) (fr' : Nat → Nat) : M.fn = m + 1 → HeapO fr' m → Same M.fr fr' (m + 1) → fr' m = M.fr 0 → FillR M t (M.fr 0) (M.fillT m fr' t)

set_option maxRecDepth 100000 in
set_option maxHeartbeats 8000000 in
theorem fill_is (w : World) (h : Nat) (M : Hp) (z : Nat) (L : Nat → Lab) (N g : Nat) (t : Tup) (sv : Value) (hz : z ≤ 90000) (hN : N ≤ w.heap.size) (H : HpM w h M z L) (hh : HeapO M.fr M.fn) (hv : ∀ j, j < M.fn → M.fr j < M.n) (hF : Fresh w L N g t sv) :
    Calls Try.prog 44 #[ptrV h, ptrV g] w fun e w' => ∃ slot : Nat, e = .returned (.int .i64 (slot : Int)) ∧ ∃ M' L', FillR M t slot M' ∧ HpM w' h M' (z + 1) L' ∧ Ext N L L' ∧ Touch (Fof L) w w' := by
  obtain ⟨s, f, mv, stp, hl, hs, hf, htb⟩ := H.ex
  obtain ⟨n, hn⟩ : ∃ n, M.n = n := ⟨_, rfl⟩
  rw [hn] at hs
  obtain ⟨a0, cc0, hsl, hnc0, hcm0⟩ := hs.row.form
  subst hsl
  have hfs := HpM.frs H.hp hl hf
  have c0 := hl.cell (o := 0) rfl
  have f0 := hl.fz 0
  have hhl := hl.lt
  have hnz : n ≤ z := by rw [← hn]; exact H.nz
  cases hfn : M.fn with
  | zero =>
    rw [hfn] at hfs
    have hcon := take_no w h _ mv f M.fr hfs
    obtain ⟨a', c', W6, hrun, hl6, hl7, L', hend, he, ht⟩ := fill_new H (by omega) hN hn hl hs hf htb hF
    have HRUN := Lib.hid hrun
    have HEND := Lib.hid (And.intro hend (And.intro he ht))
    have HN := Lib.hid hn
    have HFN := Lib.hid hfn
    have HNZ := Lib.hid (And.intro hnz hz)
    have d0 := hl6.cell (o := 0) rfl
    have df := hl6.fz 0
    have e0 := hl7.cell (o := 0) rfl
    have HC0 : Hid (W6.cell? ⟨h, 0, none⟩ = some (.slice a0 n cc0) ∧ W6.frozen? ⟨h, 0, none⟩ = false ∧ (W6.setCell ⟨h, 0, none⟩ (.slice a' (n + 1) c')).cell? ⟨h, 0, none⟩ = some (.slice a' (n + 1) c')) := Lib.hid ⟨d0, df, e0⟩
    have hw1 : wrap64 (n : Int) = (n : Int) := wrOk (by omega)
    unfold ptrV at HRUN ⊢
    clear H hh hv hF hl hs hf htb hfs hrun hl6 hl7 hend he ht hnz hz hfn hn d0 df e0 hnc0 hcm0
    go_enter Try.func44, Try.ntmps44
    go_wp2_with fail
    refine hcon.mono ?_
    rintro e w1 ⟨rfl, rfl⟩
    clear hcon
    obtain ⟨d0, df, e0⟩ := HC0.out
    go_wp2_with (first | (at_builtin; refine append_stepW rfl _ _ 71 rfl (.slice a0 n cc0) (.slice (some ⟨w1.heap.size, 0, none⟩) 1 1) (.slice a' (n + 1) c') W6 rfl rfl (HRUN.out _) ?_; clear c0 f0) | go_in)
    go_ret
    obtain ⟨q1, q2, q3⟩ := HEND.out
    refine ⟨n, ?_, M.more t, L', by rw [← HN.out]; exact FillR.new HFN.out, q1, q2, q3⟩
    first | rfl | simp [hw1]
  | succ m =>
    have hi : M.fr 0 < n := by rw [← hn]; exact hv 0 (by omega)
    rw [hfn] at hfs hh
    obtain ⟨x, hx⟩ : ∃ x, M.fr 0 = x := ⟨_, rfl⟩
    have hcon := take_is w h _ mv f m M.fr x hx (by have := H.fz; omega) hh hfs
    rw [hx] at hi
    have HH := Lib.hid H
    have HS := Lib.hid (And.intro hl (And.intro hs (And.intro hf htb)))
    have HF := Lib.hid hF
    have HN := Lib.hid (And.intro hn hN)
    have HX := Lib.hid hx
    have HI := Lib.hid hi
    have HFN := Lib.hid hfn
    have h2 : (x : Int) < (n : Int) := by omega
    have h3 : (0 : Int) ≤ (x : Int) := by omega
    unfold ptrV
    clear H hh hv hF hl hs hf htb hfs hnz hz hfn hn hx hi hnc0 hcm0 c0 f0 hN
    go_enter Try.func44, Try.ntmps44
    go_wp2_with fail
    refine hcon.mono ?_
    rintro e w1 ⟨rfl, f', fr', hk1, hh1, hsame, hlast, ht1, ho1⟩
    clear hcon
    obtain ⟨hl, hs, hf, htb⟩ := HS.out
    have hs1 : SlP w1 L (.slice a0 n cc0) n M.tup stp := by
      have ht1' : Touch (fun k => L k = .hp ∨ L k = .fr) w w1 := ht1.mono (fun k hk => hk.elim (fun e => .inl (by rw [e]; exact HH.out.hp)) (fun e => .inr (hf.own k e)))
      have hst := ht1'.stay (G := fun k => L k ≠ .hp ∧ L k ≠ .fr) (fun k hk e => e.elim hk.1 hk.2)
      exact hs.stay hst (fun k hk => ⟨(by intro e; rw [e] at hk; cases hk), (by intro e; rw [e] at hk; cases hk)⟩)
    obtain ⟨b, c, e, hnc, hcm, hbl, hcell, hfz⟩ := hs1.cell HI.out
    cases e
    have d0 := hk1.lit.cell (o := 0) rfl
    have hend := fill_old (N := N) (g := g) (t := t) (sv := sv) (stp := stp) (b := b) (c := cc0) (m := m) (fr' := fr') (f' := f') HH.out HN.out.2 (by rw [HN.out.1]; exact hl) (by rw [HN.out.1]; exact hs) hf htb HFN.out (by rw [HX.out, HN.out.1]; exact HI.out) HF.out (by rw [HN.out.1]; exact hk1) ht1 ho1
    rw [HX.out] at hend
    unfold ptrV at hend
    have HEND := Lib.hid hend
    have HO := Lib.hid (And.intro hh1 (And.intro hsame hlast))
    clear hl hs hf htb hs1 hk1 hh1 hsame hlast ht1 ho1 hend hnc hcm
    go_wp2_with fail
    go_ret
    obtain ⟨L', q1, q2, q3⟩ := HEND.out
    obtain ⟨o1, o2, o3⟩ := HO.out
    have hr := FillR.old (M := M) (t := t) m fr' HFN.out o1 o2 (by rw [HX.out]; exact o3)
    rw [HX.out] at hr
    refine ⟨x, ?_, _, L', hr, q1.more (Nat.le_succ z), q2, q3⟩
    first | rfl | trivial | simp

end Go.Proofs.Ytbgnbaogclnpgaa
