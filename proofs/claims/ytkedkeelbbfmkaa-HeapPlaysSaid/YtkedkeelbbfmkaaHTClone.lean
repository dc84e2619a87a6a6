/-
  A table is copied (stage 11).
-/
import Derived.Test.YtkedkeelbbfmkaaHTabs
namespace Go.Proofs.Ytkedkeelbbfmkaa
open Go.RowKit
set_option linter.unusedVariables false

/-- The next entry of a table's index. J: what holds whatever the iterator does. -/
theorem next_ix {w : World} {ops : Array Oper} {rest : List Oper} {o : Oper} {a : Act} {Q : Exit → Act → World → Prop} {b r n cnt : Nat} {left : Int → Bool} {T : Tbl} {lp : Int → Value} (J : World → Prop)
    (hg : o.guard = none) (it : Operand) (hop : o.op = Op.next it false) (hit : a.eval it = .pointer (some ⟨r, 0, none⟩)) (hr : RangeF w b r n (ixF T lp) left cnt) (hJ : ∀ w', Touch (fun k => k = r) w w' → J w')
    (hDone : (∀ x, I64 x → left x = false) → wpList Try.prog ops Q rest (a.put o.dst (.tuple #[.bool false])) w)
    (hMore : ∀ (x : Int) (w' : World) (cnt' : Nat), I64 x → left x = true → T.ix x ≠ [] → RangeF w' b r n (ixF T lp) (fun z => left z && !decide (z = x)) cnt' → cnt' < cnt → J w' →
      (Instr.entry (.pointer (some ⟨r, 0, none⟩))).run Try.prog w' = .ok (.tuple #[.int .i64 x, lp x]) w' → wpList Try.prog ops Q rest (a.put o.dst (.tuple #[.bool true, .int .i64 x, lp x])) w') :
    wpList Try.prog ops Q (o :: rest) a w := by
  refine next_f hg it hop hit hr hDone fun x v w' cnt' hx hl hf hr' hlt ht hs hen => ?_
  have hne : T.ix x ≠ [] ∧ v = lp x := by
    unfold ixF at hf
    by_cases e : T.ix x = []
    · rw [if_pos e] at hf; cases hf
    · rw [if_neg e] at hf; exact ⟨e, (Option.some.inj hf).symm⟩
  obtain ⟨h1, rfl⟩ := hne
  exact hMore x w' cnt' hx hl h1 hr' hlt (hJ w' ht) hen

/-- T, as far as it is copied. -/
def Tbl.part (T : Tbl) (left : Int → Bool) : Tbl := ⟨T.last, fun y => if left y = true ∨ ¬ I64 y then [] else T.ix y⟩

/-- A table whose index has at most m rows. -/
def TbN (W : World) (L : Nat → Lab) (z m g : Nat) (x : Int) (T : Tbl) : Prop :=
  L g = .tb x ∧ ∃ b n lp, Lit W g 89 [.int .i64 T.last, .map (some b)] ∧ L b = .ix x ∧ n ≤ m ∧ MapF W b n (ixF T lp) ∧
    ∀ y, T.ix y ≠ [] → I64 y ∧ (T.ix y).length ≤ z ∧ RowI W (lp y) (natI (T.ix y)) ∧ ∀ k, (lp y).ownBlock = some k → L k = .ls x y
theorem TbN.stay {W W' : World} {L : Nat → Lab} {G : Nat → Prop} {z m g : Nat} {x : Int} {T : Tbl} (h : TbN W L z m g x T) (hs : Stay G W W') (hG : ∀ k, (L k).ofB x = true → G k) : TbN W' L z m g x T := by
  obtain ⟨h1, b, n, lp, h2, h3, h4, h5, h6⟩ := h
  refine ⟨h1, b, n, lp, h2.stay hs (hG _ (by rw [h1]; simp [Lab.ofB])), h3, h4, h5.stay hs (hG _ (by rw [h3]; simp [Lab.ofB])), fun y hy => ?_⟩
  obtain ⟨q1, q2, q3, q4⟩ := h6 y hy
  exact ⟨q1, q2, q3.stay hs (fun k hk => hG k (by rw [q4 k hk]; simp [Lab.ofB])), q4⟩
theorem TbN.more {W : World} {L : Nat → Lab} {z m m' g : Nat} {x : Int} {T : Tbl} (h : TbN W L z m g x T) (hm : m ≤ m') : TbN W L z m' g x T := by
  obtain ⟨h1, b, n, lp, h2, h3, h4, h5, h6⟩ := h
  exact ⟨h1, b, n, lp, h2, h3, Nat.le_trans h4 hm, h5, h6⟩
theorem TbN.tb {W : World} {L : Nat → Lab} {z m g : Nat} {x : Int} {T : Tbl} (h : TbN W L z m g x T) (hm : m ≤ z) : TbAt W L z g x T := by
  obtain ⟨h1, b, n, lp, h2, h3, h4, h5, h6⟩ := h
  exact ⟨h1, b, n, lp, h2, h3, Nat.le_trans h4 hm, h5, h6⟩

/-- A row more in a table's index. -/
theorem tb_put {W W7 : World} {L : Nat → Lab} {z m g b n N : Nat} {x id : Int} {T T' : Tbl} {lp : Int → Value} {s : Value} {l : List Nat} (hlt : ∀ k, L k ≠ .no → k < W.heap.size) (hid : I64 id) (hg : L g = .tb x) (hl : Lit W g 89 [.int .i64 T.last, .map (some b)]) (hb : L b = .ix x) (hn : n ≤ m)
    (hr : ∀ y, T.ix y ≠ [] → I64 y ∧ (T.ix y).length ≤ z ∧ RowI W (lp y) (natI (T.ix y)) ∧ ∀ k, (lp y).ownBlock = some k → L k = .ls x y)
    (hs : RowI W s (natI l)) (hne : l ≠ []) (hll : l.length ≤ z) (hno : ∀ k, s.ownBlock = some k → L k = .no ∧ N ≤ k)
    (hm7 : MapF W7 b (n + 1) (updM (ixF T lp) id (some s))) (hg7 : W.grownBy W7 (some b)) (hT' : T'.last = T.last ∧ ∀ y, T'.ix y = if y = id then l else T.ix y) :
    ∃ L', TbN W7 L' z (m + 1) g x T' ∧ Ext N L L' ∧ (∀ k, L' k ≠ .no → k < W7.heap.size) ∧ (∀ k, L' k ≠ .no → L k ≠ .no ∨ s.ownBlock = some k) ∧ ∀ k, s.ownBlock = some k → L' k = .ls x id := by
  have ht : Touch (fun k => k = b) W W7 := Touch.grown hg7 (fun k hk => (Option.some.inj hk).symm)
  have hst := ht.stay (G := fun k => k ≠ b) (fun k hk e => hk e)
  have hsz := ht.size
  have hgb : g ≠ b := by rintro rfl; rw [hg] at hb; cases hb
  have hsb : ∀ k, s.ownBlock = some k → k ≠ b := fun k hk e => by have := (hno k hk).1; rw [e, hb] at this; cases this
  obtain ⟨L', he, hL', hlt', hnew⟩ : ∃ L', Ext N L L' ∧ (∀ k, s.ownBlock = some k → L' k = .ls x id) ∧ (∀ k, L' k ≠ .no → k < W7.heap.size) ∧ ∀ k, L' k ≠ .no → L k ≠ .no ∨ s.ownBlock = some k := by
    cases hb' : s.ownBlock with
    | none => exact ⟨L, Ext.refl _ _, fun k hk => (by cases hk), fun k hk => by have := hlt k hk; omega, fun k hk => .inl hk⟩
    | some k0 =>
      obtain ⟨h1, h2⟩ := hno k0 hb'
      have hk0 := RowF.lt hs k0 hb'
      refine ⟨setL L k0 (.ls x id), Ext.set _ (.inl h1) h2, fun k hk => by rw [← Option.some.inj hk, setL_same], fun k hk => ?_, fun k hk => ?_⟩
      · by_cases ek : k = k0
        · omega
        · rw [setL_ne _ _ ek] at hk; have := hlt k hk; omega
      · by_cases ek : k = k0
        · exact .inr (by rw [ek])
        · rw [setL_ne _ _ ek] at hk; exact .inl hk
  refine ⟨L', ⟨he.keep hg (by simp), b, n + 1, fun y => if y = id then s else lp y, ?_, he.keep hb (by simp), Nat.succ_le_succ hn, hm7.congr fun y hy => ?_, fun y hy => ?_⟩, he, hlt', hnew, hL'⟩
  · rw [hT'.1]; exact hl.stay hst hgb
  · unfold ixF updM
    rw [hT'.2 y]
    by_cases e : y = id
    · subst e; simp [hne]
    · simp only [if_neg e]
  · rw [hT'.2 y] at hy ⊢
    by_cases e : y = id
    · subst e
      simp only [if_true] at hy ⊢
      exact ⟨hid, hll, RowF.stay hs hst hsb, hL'⟩
    · simp only [if_neg e] at hy ⊢
      obtain ⟨q1, q2, q3, q4⟩ := hr y hy
      exact ⟨q1, q2, RowF.stay q3 hst (fun k hk => by rintro rfl; rw [q4 k hk] at hb; cases hb), fun k hk => he.keep (q4 k hk) (by simp)⟩

/-- A new table without rows. -/
theorem tb_new {w : World} {L2 : Nat → Lab} {x last : Int} (hlt : ∀ k, L2 k ≠ .no → k < w.heap.size) (z : Nat) :
    TbN ((w.alloc (.map #[] 0)).alloc (.cells #[.int .i64 last, .map (some w.heap.size)] 89)) (setL (setL L2 w.heap.size (.ix x)) (w.heap.size + 1) (.tb x)) z 0 (w.heap.size + 1) x ⟨last, fun _ => []⟩ ∧
      Ext w.heap.size L2 (setL (setL L2 w.heap.size (.ix x)) (w.heap.size + 1) (.tb x)) ∧ ∀ k, setL (setL L2 w.heap.size (.ix x)) (w.heap.size + 1) (.tb x) k ≠ .no → k < w.heap.size + 2 := by
  have hno : ∀ k, w.heap.size ≤ k → L2 k = .no := fun k hk => by
    by_cases e : L2 k = .no
    · exact e
    · have := hlt k e; omega
  have e1 : Ext w.heap.size L2 (setL L2 w.heap.size (.ix x)) := Ext.set _ (.inl (hno _ (Nat.le_refl _))) (Nat.le_refl _)
  have e2 : Ext w.heap.size (setL L2 w.heap.size (.ix x)) (setL (setL L2 w.heap.size (.ix x)) (w.heap.size + 1) (.tb x)) := Ext.set _ (.inl (by rw [setL_ne _ _ (by omega)]; exact hno _ (by omega))) (by omega)
  have b2 := Below.allocs (w.alloc (.map #[] 0)) (.cells [Value.int .i64 last, .map (some w.heap.size)].toArray 89)
  have hs1 : (w.alloc (.map #[] 0)).heap.size = w.heap.size + 1 := by simp
  refine ⟨⟨setL_same _ _ _, w.heap.size, 0, fun _ => .slice none 0 0, ?_, ?_, Nat.zero_le _, ((MapF.new w).below b2).congr fun y _ => ?_, fun y hy => absurd rfl hy⟩, e1.trans e2, fun k hk => ?_⟩
  · have := Lit.new (w.alloc (.map #[] 0)) 89 [.int .i64 last, .map (some w.heap.size)]
    rw [hs1] at this
    exact this
  · rw [setL_ne _ _ (by omega), setL_same]
  · unfold ixF; rw [if_pos rfl]
  · by_cases k1 : k = w.heap.size + 1
    · omega
    · rw [setL_ne _ _ k1] at hk
      by_cases k2 : k = w.heap.size
      · omega
      · rw [setL_ne _ _ k2] at hk
        have := hlt k hk
        omega

set_option maxRecDepth 100000 in
set_option maxHeartbeats 8000000 in
theorem tclone_is (w : World) (L2 : Nat → Lab) (z g bi n : Nat) (x0 : Int) (T : Tbl) (lp : Int → Value) (hz : z ≤ 90000) (hlt : ∀ k, L2 k ≠ .no → k < w.heap.size) (hl : Lit w g 89 [.int .i64 T.last, .map (some bi)]) (hn : n ≤ z) (hm : MapF w bi n (ixF T lp))
    (hr : ∀ y, T.ix y ≠ [] → I64 y ∧ (T.ix y).length ≤ z ∧ RowI w (lp y) (natI (T.ix y))) (hbi : L2 bi = .no) (hx0 : ∀ k, L2 k ≠ .ix x0) :
    Calls Try.prog 54 #[.pointer (some ⟨g, 0, none⟩)] w fun e w' => ∃ g', e = .returned (.pointer (some ⟨g', 0, none⟩)) ∧ ∃ L2', TbAt w' L2' z g' x0 T ∧ Ext w.heap.size L2 L2' ∧ (∀ k, L2' k ≠ .no → k < w'.heap.size) ∧ (∀ k, L2' k ≠ .no → L2 k ≠ .no ∨ (L2' k).ofB x0 = true) ∧ w.heap.size ≤ g' ∧ Below w.heap.size w w' := by
  have mixed : Try.prog.follows Departure.mixedOrders = true := by kernel_rfl
  have c0 := hl.cell (o := 0) rfl
  have c1 := hl.cell (o := 1) rfl
  have hgl := hl.lt
  obtain ⟨q1, q2, q3⟩ := tb_new (w := w) (x := x0) (last := T.last) hlt z
  obtain ⟨b0, hb0⟩ : ∃ b0, w.heap.size = b0 := ⟨_, rfl⟩
  have hmm := @run_makeMap Try.prog
  obtain ⟨W1, hW1⟩ : ∃ W1, (w.alloc (.map #[] 0)).alloc (.cells #[.int .i64 T.last, .map (some b0)] 89) = W1 := ⟨_, rfl⟩
  rw [hb0, hW1] at q1
  rw [hb0] at q3
  obtain ⟨L0, hL0⟩ : ∃ L0, setL (setL L2 b0 (.ix x0)) (b0 + 1) (.tb x0) = L0 := ⟨_, rfl⟩
  have HL0 : Hid (∀ k, L0 k ≠ .no → L2 k ≠ .no ∨ (L0 k).ofB x0 = true) := Lib.hid (fun k hk => by
    rw [← hL0] at hk ⊢
    by_cases k1 : k = b0 + 1
    · right; rw [k1, setL_same]; simp [Lab.ofB]
    · rw [setL_ne _ _ k1] at hk ⊢
      by_cases k2 : k = b0
      · right; rw [k2, setL_same]; simp [Lab.ofB]
      · rw [setL_ne _ _ k2] at hk; exact .inl hk)
  rw [hb0, hL0] at q2
  rw [hL0] at q1 q3
  have hs0 : (w.alloc (.map #[] 0)).heap.size = b0 + 1 := by rw [← hb0]; simp
  have hsz1 : W1.heap.size = b0 + 2 := by rw [← hW1]; simp [hb0]
  have hb1 : Below w.heap.size w W1 := by rw [← hW1]; exact ((Below.refl _ w).alloc (Nat.le_refl _) _).alloc (by simp) _
  have d1 : W1.cell? ⟨g, 1, none⟩ = some (.map (some bi)) := by rw [hb1.cell (p := ⟨g, 1, none⟩) hgl]; exact c1
  have HQ := Lib.hid (And.intro q1 (And.intro q2 (And.intro q3 hsz1)))
  have HB0 := Lib.hid hb0
  have HW1 := Lib.hid hW1
  have HB1 := Lib.hid hb1
  have HM := Lib.hid (hm.below hb1)
  have HR := Lib.hid hr
  have HN := Lib.hid (And.intro hn hz)
  have HBI : Hid (L2 bi = .no ∧ bi < b0) := Lib.hid ⟨hbi, by rw [← hb0]; exact hm.lt⟩
  have HX0 := Lib.hid hx0
  have HS0 := Lib.hid hs0
  have hgl1 := Nat.lt_of_lt_of_le hgl hb1.size
  clear hbi hx0 hl hm hr hlt hz hn q1 q2 q3 hb0 hW1 hL0 hs0 hsz1 hb1
  go_enter Try.func54, Try.ntmps54
  go_upto_region 2 with (fail)
  rw [HB0.out, HW1.out]
  try rw [HS0.out]
  clear c0 c1 hmm HW1 HS0 hgl
  go_wp2_with (first | (at_range; refine range_f rfl _ _ rfl 36 Try.underlying86 rfl HM.out (fun w0 cnt0 hcn hrg hb2 hsz2 => ?_)) | go_in)
  go_frame
  obtain ⟨r, hr⟩ : ∃ r, W1.heap.size = r := ⟨_, rfl⟩
  rw [hr] at hrg ⊢
  have HRr := Lib.hid hr
  have HINV : Hid (TbN w0 L0 z (n - cnt0) (b0 + 1) x0 (T.part (fun y => decide (I64 y) && (ixF T lp y).isSome)) ∧ Ext b0 L2 L0 ∧ (∀ k, L0 k ≠ .no → k < w0.heap.size) ∧ L0 r = .no ∧ Below w.heap.size w w0 ∧ ∀ k, L0 k ≠ .no → L2 k ≠ .no ∨ (L0 k).ofB x0 = true) := Lib.hid (by
    obtain ⟨q1, q2, q3, q4⟩ := HQ.out
    have hb := below_tr HB1.out hb2
    refine ⟨?_, q2, fun k hk => by have := q3 k hk; omega, ?_, hb, HL0.out⟩
    · have q1' := (q1.stay (Stay.of_below (G := fun _ => True) hb2) (fun _ _ => trivial)).more (m' := n - cnt0) (by omega)
      have e : T.part (fun y => decide (I64 y) && (ixF T lp y).isSome) = ⟨T.last, fun _ => []⟩ := by
        unfold Tbl.part
        congr 1
        funext y
        by_cases hy : I64 y
        · by_cases e : T.ix y = []
          · simp [e]
          · rw [if_pos]
            left
            unfold ixF
            simp [hy, e]
        · rw [if_pos (.inr hy)]
      rw [e]
      exact q1'
    · by_cases e : L0 r = .no
      · exact e
      · have := q3 r e; omega)
  have HRG := Lib.hid hrg
  have HCN := Lib.hid hcn
  have HRS : Hid (r < w0.heap.size) := Lib.hid (by omega)
  clear hr hrg hcn hb2 hsz2
  go_loopg [4] cnt0 (fun gg _ wr => ∃ (left : Int → Bool) (cnt : Nat) (L2' : Nat → Lab), cnt ≤ gg ∧ cnt ≤ n ∧ Hid (RangeF wr bi r n (ixF T lp) left cnt) ∧ Hid (TbN wr L2' z (n - cnt) (b0 + 1) x0 (T.part left)) ∧ Hid (Ext b0 L2 L2') ∧ Hid (∀ k, L2' k ≠ .no → k < wr.heap.size) ∧ Hid (L2' r = .no) ∧ Hid (Below w.heap.size w wr) ∧ Hid (∀ k, L2' k ≠ .no → L2 k ≠ .no ∨ (L2' k).ofB x0 = true))
  case atStart =>
    obtain ⟨q1, q2, q3, q4, q5, q6⟩ := HINV.out
    exact ⟨_, cnt0, L0, Nat.le_refl _, HCN.out, HRG, Lib.hid q1, Lib.hid q2, Lib.hid q3, Lib.hid q4, Lib.hid q5, Lib.hid q6⟩
  case round =>
    obtain ⟨left, cnt, L2', hgg, hcn, HRG1, HTB, HE, HLT, HLR, HB, HNEW⟩ := hrel
    clear HRG HINV HCN HRS
    have HGG := Lib.hid (And.intro hgg hcn)
    have HJ : Hid (∀ w', Touch (fun k => k = r) wr w' → TbN w' L2' z (n - cnt) (b0 + 1) x0 (T.part left) ∧ Below w.heap.size w w' ∧ wr.heap.size ≤ w'.heap.size) := Lib.hid (fun w' ht => ⟨HTB.out.stay (ht.stay (G := fun k => L2' k ≠ .no) (fun k hk e => hk (by rw [e]; exact HLR.out))) (fun k hk => tab_no (ofB_tab hk)), HB.out.trans (ht.below (fun k hk => by have := HRr.out; have := HB1.out.size; omega) HB.out.size), ht.size⟩)
    clear hgg hcn d1
    go_wp2_with (first
      | (at_next; refine next_ix (fun w' => TbN w' L2' z (n - cnt) (b0 + 1) x0 (T.part left) ∧ Below w.heap.size w w' ∧ wr.heap.size ≤ w'.heap.size) rfl _ rfl rfl HRG1.out HJ.out (fun hl0 => ?_) (fun x w3 cnt2 hx hlx hne hrg2 hlt2 hj2 hen => ?_))
      | go_in)
    · -- nothing is left
      go_ret
      refine ⟨b0 + 1, rfl, L2', ?_, by rw [HB0.out]; exact HE.out, HLT.out, HNEW.out, by have := HB0.out; omega, HB.out⟩
      have e : TbAt wr L2' z (b0 + 1) x0 (T.part left) := HTB.out.tb (by have := HN.out; omega)
      have e2 : T.part left = T := by
        unfold Tbl.part
        obtain ⟨la, ix⟩ := T
        congr 1
        funext y
        by_cases hy : I64 y
        · rw [if_neg]
          rintro (h | h)
          · rw [hl0 y hy] at h; cases h
          · exact h hy
        · rw [if_pos (.inr hy)]
          by_cases e : ix y = []
          · exact e.symm
          · exact absurd (HR.out y e).1 hy
      rwa [e2] at e
    · -- a row
      obtain ⟨tg, b', n', lp', tl, tb', tn', tm', tr'⟩ := hj2.1
      obtain ⟨g', hg'⟩ : ∃ g', b0 + 1 = g' := ⟨_, rfl⟩
      rw [hg'] at tg tl ⊢
      have hb3 : Below w.heap.size w w3 := hj2.2.1
      have hb3d := below_tr hb3 (below_drw w3)
      have tld := tl.below (below_drw w3)
      have HS0 : Hid (w3.drew.cell? ⟨g', 1, none⟩ = some (.map (some b'))) := Lib.hid (tld.cell rfl)
      have HGL : Hid (g' < w3.heap.size) := Lib.hid tl.lt
      have HCL := Lib.hid (cloneI_is (lp x) (natI (T.ix x)) (by rw [natI_len]; have := (HR.out x hne).2.1; have := HN.out.2; omega) w3.drew (RowF.below (HR.out x hne).2.2 hb3d))
      have HT3 := Lib.hid (And.intro tg (And.intro tl (And.intro tb' (And.intro tn' (And.intro tm' tr')))))
      have HJ3 := Lib.hid hj2
      have HRG3 := Lib.hid hrg2
      have HX3 := Lib.hid (And.intro hx (And.intro hlx (And.intro hne hlt2)))
      have HG' := Lib.hid hg'
      have hnm : n' < maxLen := by have := HN.out; have := HGG.out; unfold maxLen; omega
      have HNM := Lib.hid hnm
      clear tg tl tb' tn' tm' tr' hb3 hb3d tld hj2 hrg2 hx hlx hne hlt2 hen hg' hnm
      refine RX.wp_region_lastH 7 (fun W => W.cell? ⟨g', 1, none⟩ = some (.map (some b'))) mixed (by kernel_rfl) ?_
      simp only [List.take_succ_cons, List.take_zero, List.drop_succ_cons, List.drop_zero]
      refine wpAnyH_take (i := 0) (oi := _) (v := .pointer (some ⟨g', 0, none⟩)) rfl (by kernel_rfl) (by kernel_rfl) (by kernel_rfl) (fun _ _ _ h => h) (Or.inl ⟨by rfl, fun w' hw' => ?_⟩) (HS0.out) ?_
      · have j0 := hw'
        go_simp
        try first | with_reducible rfl | simp
      refine wpAnyH_take (i := 1) (oi := _) (v := .pointer (some ⟨g', 0, none⟩)) rfl (by kernel_rfl) (by kernel_rfl) (by kernel_rfl) (fun _ _ _ h => h) (Or.inl ⟨by rfl, fun w' hw' => ?_⟩) (HS0.out) ?_
      · have j0 := hw'
        go_simp
        try first | with_reducible rfl | simp
      refine wpAnyH_take (i := 2) (oi := _) (v := .pointer (some ⟨g', 1, none⟩)) rfl (by kernel_rfl) (by kernel_rfl) (by kernel_rfl) (fun _ _ _ h => h) (Or.inl ⟨by rfl, fun w' hw' => ?_⟩) (HS0.out) ?_
      · have j0 := hw'
        go_simp
        try first | with_reducible rfl | simp
      refine wpAnyH_take (i := 3) (oi := _) (v := .map (some b')) rfl (by kernel_rfl) (by kernel_rfl) (by kernel_rfl) (fun _ _ _ h => h) (Or.inl ⟨by rfl, fun w' hw' => ?_⟩) (HS0.out) ?_
      · have j0 := hw'
        go_simp
        try first | with_reducible rfl | simp
      refine wpAnyH_take (i := 4) (oi := _) (v := .int .i64 x) rfl (by kernel_rfl) (by kernel_rfl) (by kernel_rfl) (fun _ _ _ h => h) (Or.inl ⟨by rfl, fun w' hw' => ?_⟩) (HS0.out) ?_
      · have j0 := hw'
        go_simp
        try first | with_reducible rfl | simp
      refine wpAnyH_take (i := 5) (oi := _) (v := lp x) rfl (by kernel_rfl) (by kernel_rfl) (by kernel_rfl) (fun _ _ _ h => h) (Or.inl ⟨by rfl, fun w' hw' => ?_⟩) (HS0.out) ?_
      · have j0 := hw'
        go_simp
        try first | with_reducible rfl | simp
      refine RX.anyH_call (i := 6) (f := 74) (args := #[lp x]) (by kernel_rfl) rfl (by rfl) (by go_simp) ?_
      refine (show Calls Try.prog _ _ _ _ from HCL.out).mono ?_
      rintro e w4 ⟨v4, rfl, hr4, ho4, hb4⟩
      
      have HR4 := Lib.hid hr4
      have HO4 := Lib.hid ho4
      have HB4 := Lib.hid (below_tr (below_drw w3) hb4)
      have HS4 : Hid (w4.cell? ⟨g', 1, none⟩ = some (.map (some b'))) := Lib.hid (by rw [HB4.out.cell (p := ⟨g', 1, none⟩) HGL.out]; exact HS0.out)
      clear hr4 ho4 hb4
      refine ⟨v4, rfl, HS4.out, ?_⟩
      refine wpAnyH_done (by kernel_rfl) ?_ _
      unfold RX.lastQ
      go_wp2_with (first | (at_mapUpdate; refine put_f rfl _ _ _ 86 rfl 36 Try.underlying86 b' n' (ixF (T.part left) lp') rfl (HT3.out.2.2.2.2.1.below HB4.out) HNM.out x HX3.out.1 rfl v4 rfl ?_; intro w7 hm7 hg7) | go_in)
      obtain ⟨tg, tl, tb', tn', tm', tr'⟩ := HT3.out
      obtain ⟨hx, hlx, hne, hlt2⟩ := HX3.out
      have hsz34 := HB4.out.size
      have hlt3 : ∀ k, L2' k ≠ .no → k < w3.heap.size := fun k hk => Nat.lt_of_lt_of_le (HLT.out k hk) HJ3.out.2.2
      have HRW3 : ∀ k, w3.heap.size ≤ k → L2' k = .no ∧ b0 ≤ k := fun k hk => ⟨by
        by_cases e : L2' k = .no
        · exact e
        · have := hlt3 k e; omega, by have := HJ3.out.2.1.size; have := HB0.out; omega⟩
      have hb'0 : b0 ≤ b' := by
        rcases HE.out.new b' (by rw [tb']; simp) with e | e
        · exact absurd (by rw [← HE.out.old b' e]; exact tb') (HX0.out b')
        · exact e
      have hbib' : bi ≠ b' := by have := HBI.out.2; omega
      have hrb' : r ≠ b' := by rintro rfl; rw [HLR.out] at tb'; cases tb'
      obtain ⟨L7, p1, p2, p3, p4, p5⟩ := tb_put (N := b0) (T' := T.part (fun z => left z && !decide (z = x))) (fun k hk => Nat.lt_of_lt_of_le (hlt3 k hk) hsz34) hx tg (tl.below HB4.out) tb' tn' (fun y hy => ⟨(tr' y hy).1, (tr' y hy).2.1, RowF.below (tr' y hy).2.2.1 HB4.out, (tr' y hy).2.2.2⟩) HR4.out hne (by have := (HR.out x hne).2.1; have := HGG.out; omega)
        (fun k hk => by
          have h1 := HO4.out k hk
          have h2 : w3.heap.size ≤ k := h1
          have h3 := HRW3 k h2
          exact h3) hm7 hg7 ⟨rfl, fun y => by
        unfold Tbl.part
        by_cases e : y = x
        · subst e
          simp [hx]
        · simp only [if_neg e]
          by_cases hl : left y = true
          · simp [hl, e]
          · simp [hl, e]⟩
      have hg47 : Touch (fun k => k = b') w4 w7 := Touch.grown hg7 (fun k hk => (Option.some.inj hk).symm)
      have hb7 : Below w.heap.size w w7 := ((HJ3.out.2.1).trans (HB4.out.mono HJ3.out.2.1.size)).trans (hg47.below (fun k hk => by have := HB0.out; omega) (by have := HJ3.out.2.1.size; omega))
      have hrg7 : RangeF w7 bi r n (ixF T lp) (fun z => left z && !decide (z = x)) cnt2 := (HRG3.out.below HB4.out).kept hg47.size (hg47.block bi (HRG3.out.below HB4.out).map.lt hbib') (hg47.block r (HRG3.out.below HB4.out).lt hrb')
      rw [← HG'.out]
      go_roundg cnt2
      case measure => have := HGG.out; omega
      case rel =>
        refine ⟨_, cnt2, L7, Nat.le_refl _, by have := HGG.out; omega, Lib.hid hrg7, Lib.hid (by rw [HG'.out]; exact p1.more (by have := HGG.out; omega)), Lib.hid (HE.out.trans p2), Lib.hid p3, Lib.hid ?_, Lib.hid hb7, Lib.hid (fun k hk => ?_)⟩
        · apply Classical.byContradiction
          intro hk
          rcases p4 r hk with e | e
          · exact e HLR.out
          · have h1 := HO4.out r e
            have h2 : w3.heap.size ≤ r := h1
            have := HRG3.out.lt
            omega
        · rcases p4 k hk with e | e
          · rw [p2.old k e]; exact HNEW.out k e
          · right; rw [p5 k e]; simp [Lab.ofB]

end Go.Proofs.Ytkedkeelbbfmkaa
