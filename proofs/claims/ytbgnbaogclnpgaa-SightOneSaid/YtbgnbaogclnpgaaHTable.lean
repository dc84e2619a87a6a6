/-
  (*Heap).table: the table of a number is found, or made (stage 11).
-/
import Derived.Test.YtbgnbaogclnpgaaHTab
namespace Go.Proofs.Ytbgnbaogclnpgaa
open Go.RowKit
set_option linter.unusedVariables false

def Tbl.none : Tbl := ⟨0, fun _ => []⟩
/-- M, with a table of x. -/
def Hp.opn (M : Hp) (x : Int) : Hp := match M.tb x with | some _ => M | .none => M.setTb x ⟨0, fun _ => []⟩

/-- What comes of a new table. -/
theorem made {W w5 : World} {h z b g1 n : Nat} {M : Hp} {L : Nat → Lab} {tp : Int → Nat} {x : Int} {s f : Value} (H : HpG W h M z L b tp) (hx : M.tb x = none) (hI : I64 x) (hg1 : W.heap.size = g1) (hl : Lit W h 75 [s, f, .map (some b)]) (hn : n ≤ z) (hm : MapF W b n (tbF M.tb tp))
    (hm5 : MapF w5 b (n + 1) (updM (tbF M.tb tp) x (some (.pointer (some ⟨g1 + 1, 0, none⟩))))) (hg5 : ((W.alloc (.map #[] 0)).alloc (.cells #[.int .i64 0, .map (some g1)] 123)).grownBy w5 (some b)) :
    HpG w5 h (M.setTb x ⟨0, fun _ => []⟩) (z + 1) (setL (setL L g1 (.ix x)) (g1 + 1) (.tb x)) b (fun y => if y = x then g1 + 1 else tp y) ∧ Ext W.heap.size L (setL (setL L g1 (.ix x)) (g1 + 1) (.tb x)) ∧ Touch (Fof L) W w5 ∧ True := by
  subst hg1
  have hno : ∀ k, W.heap.size ≤ k → L k = .no := fun k hk => by
    by_cases e : L k = .no
    · exact e
    · have := H.lt k e; omega
  have e1 : Ext W.heap.size L (setL L W.heap.size (.ix x)) := Ext.set _ (.inl (hno _ (Nat.le_refl _))) (Nat.le_refl _)
  have e2 : Ext W.heap.size (setL L W.heap.size (.ix x)) (setL (setL L W.heap.size (.ix x)) (W.heap.size + 1) (.tb x)) := Ext.set _ (.inl (by rw [setL_ne _ _ (by omega)]; exact hno _ (by omega))) (by omega)
  have he := e1.trans e2
  have hbl := hm.lt
  have b1 := Below.allocs W (.map #[] 0)
  have b2 := Below.allocs (W.alloc (.map #[] 0)) (.cells [Value.int .i64 0, .map (some W.heap.size)].toArray 123)
  have hs1 : (W.alloc (.map #[] 0)).heap.size = W.heap.size + 1 := by simp
  have hs2 : ((W.alloc (.map #[] 0)).alloc (.cells [Value.int .i64 0, .map (some W.heap.size)].toArray 123)).heap.size = W.heap.size + 2 := by simp
  have hsz := hg5.size
  have hsz' : W.heap.size + 2 ≤ w5.heap.size := by rw [← hs2]; exact hsz
  have ht : Touch (fun k => k = b) W w5 := ((Touch.of_below b1).trans (Touch.of_below b2) (fun _ _ h => h)).trans (Touch.grown hg5 (fun k hk => (Option.some.inj hk).symm)) (fun _ _ h => h)
  have hst : Stay (fun k => L k ≠ .no ∧ L k ≠ .tm) W w5 := ht.stay (fun k hk e => hk.2 (by rw [e]; exact H.tm))
  obtain ⟨s', f', stp, n', h1, h2, h3, h4, h5⟩ := H.ex
  have hmn : MapF w5 W.heap.size 0 (fun _ => none) := by
    have := (MapF.new W).below b2
    exact this.of_block (hg5.block _ (by rw [hs2]; omega) (by intro e; have := Option.some.inj e; omega))
  have hln : Lit w5 (W.heap.size + 1) 123 [.int .i64 0, .map (some W.heap.size)] := by
    have := Lit.new (W.alloc (.map #[] 0)) 123 [.int .i64 0, .map (some W.heap.size)]
    rw [hs1] at this
    exact (hg5.block _ (by rw [hs2]; omega) (by intro e; have := Option.some.inj e; omega)).trans this
  refine ⟨⟨fun k hk => ?_, he.keep H.hp (by simp), Nat.le_trans H.nz (Nat.le_succ z), Nat.le_trans H.fz (Nat.le_succ z), he.keep H.tm (by simp), ⟨s', f', stp, n + 1, h1.stay hst (by rw [H.hp]; simp), (h2.stay hst (fun k hk => ⟨slot_no hk, by intro e; rw [e] at hk; cases hk⟩)).ext he, (h3.stay hst (fun k hk => by rw [hk]; simp)).ext he, Nat.succ_le_succ hn, hm5.congr fun y hy => ?_⟩, fun y T hy => ?_⟩, he, ht.mono (fun k hk => by unfold Fof; rw [hk, H.tm]; simp), trivial⟩
  · by_cases k1 : k = W.heap.size + 1
    · omega
    · rw [setL_ne _ _ k1] at hk
      by_cases k2 : k = W.heap.size
      · omega
      · rw [setL_ne _ _ k2] at hk
        have := H.lt k hk
        omega
  · unfold tbF Hp.setTb updM
    by_cases e : y = x
    · simp only [e, if_true, Option.map_some]; rfl
    · simp only [if_neg e]
  · unfold Hp.setTb at hy
    by_cases e : y = x
    · subst e
      simp only [if_true] at hy ⊢
      rw [← Option.some.inj hy]
      refine ⟨hI, setL_same _ _ _, W.heap.size, 0, fun _ => .slice .none 0 0, hln, ?_, Nat.zero_le _, hmn.congr fun y _ => ?_, fun y hy => absurd rfl hy⟩
      · rw [setL_ne _ _ (by omega), setL_same]
      · unfold ixF; rw [if_pos rfl]
    · simp only [if_neg e] at hy ⊢
      obtain ⟨q1, q2⟩ := H.at' y T hy
      exact ⟨q1, ((q2.stay hst (fun k hk => ⟨tab_no (ofB_tab hk), by intro e; rw [e] at hk; cases hk⟩)).ext he).more (Nat.le_succ z)⟩

set_option maxRecDepth 100000 in
set_option maxHeartbeats 4000000 in
theorem table_there (w : World) (h : Nat) (M : Hp) (z : Nat) (L : Nat → Lab) (b : Nat) (tp : Int → Nat) (x : Int) (T : Tbl) (hI : I64 x) (H : HpG w h M z L b tp) (hx : M.tb x = some T) :
    Calls Try.prog 45 #[ptrV h, .int .i64 x] w fun e w' => e = .returned (ptrV (tp x)) ∧ w' = w := by
  obtain ⟨s, f, stp, n, hl, -, -, -, hm⟩ := H.ex
  have c2 := hl.cell (o := 2) rfl
  have hhl := hl.lt
  have hlk := hm.look Try.underlying73 (z := .pointer none) (by kernel_rfl) hI
  rw [show (tbF M.tb tp x).getD (.pointer none) = .pointer (some ⟨tp x, 0, none⟩) by unfold tbF; rw [hx]; rfl] at hlk
  have qm : ∀ (w : World) (r : Option Nat), (binOp .eql 73 (.map r) (.map none)).run Try.prog w = .ok (.bool r.isNone) w := fun w r => run_eql_map_nil w _ _ _ r Try.underlying73
  unfold ptrV
  clear hl hm H hx
  go_enter Try.func45, Try.ntmps45
  go_wp2_with fail
  go_ret
  exact ⟨rfl, rfl⟩

set_option maxRecDepth 100000 in
set_option maxHeartbeats 4000000 in
theorem table_new (w : World) (h : Nat) (M : Hp) (z : Nat) (L : Nat → Lab) (b : Nat) (tp : Int → Nat) (x : Int) (hI : I64 x) (hz : z ≤ 100000) (H : HpG w h M z L b tp) (hx : M.tb x = none) :
    Calls Try.prog 45 #[ptrV h, .int .i64 x] w fun e w' => ∃ g, e = .returned (ptrV g) ∧ ∃ L' tp', g = tp' x ∧ HpG w' h (M.setTb x ⟨0, fun _ => []⟩) (z + 1) L' b tp' ∧ Ext w.heap.size L L' ∧ Touch (Fof L) w w' := by
  have HG := Lib.hid H
  have HNO := Lib.hid hx
  have HI := Lib.hid hI
  have HZ := Lib.hid hz
  have qm : ∀ (w : World) (r : Option Nat), (binOp .eql 73 (.map r) (.map none)).run Try.prog w = .ok (.bool r.isNone) w := fun w r => run_eql_map_nil w _ _ _ r Try.underlying73
  unfold ptrV
  clear H hx hI hz
  go_enter Try.func45, Try.ntmps45
  obtain ⟨s, f, stp, n, hl, -, -, hnz, hm⟩ := HG.out.ex
  have c2 := hl.cell (o := 2) rfl
  have hhl := hl.lt
  have hlk := hm.look Try.underlying73 (z := .pointer none) (by kernel_rfl) HI.out
  rw [show (tbF M.tb tp x).getD (.pointer none) = .pointer none by unfold tbF; rw [HNO.out]; rfl] at hlk
  have hmm := @run_makeMap Try.prog
  obtain ⟨g1, hg1⟩ : ∃ g1, w.heap.size = g1 := ⟨_, rfl⟩
  have hsz1 : (w.alloc (.map #[] 0)).heap.size = g1 + 1 := by rw [← hg1]; simp
  have HM := Lib.hid hm
  have HG1 := Lib.hid hg1
  have HSZ1 := Lib.hid hsz1
  have hn : n < maxLen := by have := HZ.out; unfold maxLen; omega
  have HLT : Hid ((((w.alloc (.map #[] 0)).alloc (.cells #[.int .i64 0, .map (some g1)] 123)).cell? ⟨h, 2, none⟩ = some (.map (some b)))) := Lib.hid (((hl.below (Below.allocs w (.map #[] 0))).below (Below.allocs _ (.cells #[.int .i64 0, .map (some g1)] 123))).cell (o := 2) rfl)
  have HN := Lib.hid hn
  have HNZ := Lib.hid hnz
  have HL := Lib.hid hl
  clear hm hg1 hsz1 hn hl hnz
  go_wp2_with (first | (at_mapUpdate; rw [HG1.out]; refine put_f rfl _ _ _ 73 rfl 108 Try.underlying73 b n (tbF M.tb tp) rfl ((HM.out.below (Below.allocs _ _)).below (Below.allocs _ _)) HN.out x HI.out rfl (.pointer (some ⟨g1 + 1, 0, none⟩)) (by first | rfl | simp [HG1.out]) ?_; intro w5 hm5 hg5; have HEND := Lib.hid (made HG.out HNO.out HI.out HG1.out HL.out HNZ.out HM.out hm5 hg5); obtain ⟨s', f', stp', n', hl5, -, -, -, hm5'⟩ := HEND.out.1.ex; have c5 := hl5.cell (o := 2) rfl; have hlk5 := hm5'.look Try.underlying73 (z := .pointer none) (by kernel_rfl) HI.out; rw [show (tbF (M.setTb x ⟨0, fun _ => []⟩).tb (fun y => if y = x then g1 + 1 else tp y) x).getD (.pointer none) = .pointer (some ⟨g1 + 1, 0, none⟩) from (by unfold tbF Hp.setTb; simp [ptrV])] at hlk5; clear hm5 hg5 hlk hl5 hm5' c2 hmm) | go_in)
  go_ret
  exact ⟨_, rfl, _, _, by simp, HEND.out.1, HEND.out.2.1, HEND.out.2.2.1⟩

/-- The map of tables is made. -/
theorem first_map {w : World} {h z : Nat} {M : Hp} {L : Nat → Lab} {s f : Value} {stp : Nat → Nat} (H : HpM w h M z L) (hl : Lit w h 75 [s, f, .map none]) (hs : SlP w L s M.n M.tup stp) (hf : FrP w L f M.fn M.fr) (hno : ∀ x, M.tb x = none) :
    HpG ((w.alloc (.map #[] 0)).setCell ⟨h, 2, none⟩ (.map (some w.heap.size))) h M z (setL L w.heap.size .tm) w.heap.size (fun _ => 0) ∧ Ext w.heap.size L (setL L w.heap.size .tm) ∧ Touch (Fof L) w ((w.alloc (.map #[] 0)).setCell ⟨h, 2, none⟩ (.map (some w.heap.size))) := by
  have hnl : ∀ k, w.heap.size ≤ k → L k = .no := fun k hk => by
    by_cases e : L k = .no
    · exact e
    · have := H.lt k e; omega
  have he : Ext w.heap.size L (setL L w.heap.size .tm) := Ext.set _ (.inl (hnl _ (Nat.le_refl _))) (Nat.le_refl _)
  have b1 := Below.allocs w (.map #[] 0)
  have hhl := hl.lt
  have hset := Touch.setCell (w.alloc (.map #[] 0)) (F := fun k => k = h) rfl 2 (.map (some w.heap.size))
  have ht : Touch (fun k => k = h) w _ := (Touch.of_below b1).trans hset (fun _ _ h => h)
  have hst := ht.stay (G := fun k => L k ≠ .no ∧ L k ≠ .hp) (fun k hk e => hk.2 (by rw [e]; exact H.hp))
  have hsz : ((w.alloc (.map #[] 0)).setCell ⟨h, 2, none⟩ (.map (some w.heap.size))).heap.size = w.heap.size + 1 := by simp [World.setCell]
  refine ⟨⟨fun k hk => ?_, he.keep H.hp (by simp), H.nz, H.fz, setL_same _ _ _, ⟨s, f, stp, 0, (hl.below b1).set 2 _, (hs.stay hst (fun k hk => ⟨slot_no hk, by intro e; rw [e] at hk; cases hk⟩)).ext he, (hf.stay hst (fun k hk => by rw [hk]; simp)).ext he, Nat.zero_le _, ?_⟩, fun x T hx => by rw [hno x] at hx; cases hx⟩, he, ht.mono (fun k hk => by unfold Fof; rw [hk, H.hp]; simp)⟩
  · rw [hsz]
    by_cases k2 : k = w.heap.size
    · omega
    · rw [setL_ne _ _ k2] at hk
      have := H.lt k hk
      omega
  · refine ((MapF.new w).stay (hset.stay (G := fun k => k ≠ h) (fun k hk e => hk e)) (by omega)).congr fun x _ => ?_
    unfold tbF
    rw [hno x]
    rfl

set_option maxRecDepth 100000 in
set_option maxHeartbeats 4000000 in
theorem table_first (w : World) (h : Nat) (M : Hp) (z : Nat) (L : Nat → Lab) (x : Int) (hI : I64 x) (hz : z ≤ 100000) (s f : Value) (stp : Nat → Nat) (H : HpM w h M z L) (hl : Lit w h 75 [s, f, .map none]) (hs : SlP w L s M.n M.tup stp) (hf : FrP w L f M.fn M.fr) (hno : ∀ x, M.tb x = none) :
    Calls Try.prog 45 #[ptrV h, .int .i64 x] w fun e w' => ∃ g, e = .returned (ptrV g) ∧ ∃ b L' tp', g = tp' x ∧ HpG w' h (M.setTb x ⟨0, fun _ => []⟩) (z + 1) L' b tp' ∧ Ext w.heap.size L L' ∧ Touch (Fof L) w w' := by
  obtain ⟨hg0, he0, ht0⟩ := first_map H hl hs hf hno
  obtain ⟨b, hb⟩ : ∃ b, w.heap.size = b := ⟨_, rfl⟩
  have dl := hl.lt
  have hsw : (w.alloc (.map #[] 0)).setCell ⟨h, 2, none⟩ (.map (some b)) = (w.setCell ⟨h, 2, none⟩ (.map (some b))).alloc (.map #[] 0) := World.setCell_alloc_past (.map #[] 0) h 2 _ dl
  obtain ⟨tp, htp⟩ : ∃ tp : Int → Nat, (fun _ => 0) = tp := ⟨_, rfl⟩
  rw [htp] at hg0
  clear htp
  rw [hb, hsw] at hg0 ht0
  clear hsw
  obtain ⟨W, hW⟩ : ∃ W, (w.setCell ⟨h, 2, none⟩ (.map (some b))).alloc (.map #[] 0) = W := ⟨_, rfl⟩
  rw [hW] at hg0 ht0
  obtain ⟨L0, hL0⟩ : ∃ L0, setL L w.heap.size .tm = L0 := ⟨_, rfl⟩
  have hLb : setL L b .tm = L0 := by rw [← hb]; exact hL0
  rw [hL0] at he0
  rw [hLb] at hg0
  have hsW : w.heap.size ≤ W.heap.size := ht0.size
  have HNO := Lib.hid (hno x)
  have HI := Lib.hid hI
  have HZ := Lib.hid hz
  have HE0 := Lib.hid he0
  have HT0 := Lib.hid ht0
  have HB := Lib.hid hb
  have HW := Lib.hid hW
  have HSW := Lib.hid hsW
  have d2 := hl.cell (o := 2) rfl
  have d3 : ((w.alloc (.map #[] 0)).cell? ⟨h, 2, none⟩) = some (.map none) := (hl.below (Below.allocs _ _)).cell (o := 2) rfl
  have f3 : ((w.alloc (.map #[] 0)).frozen? ⟨h, 2, none⟩) = false := (hl.below (Below.allocs _ _)).fz 2
  have hmm0 := @run_makeMap Try.prog
  have qm : ∀ (w : World) (r : Option Nat), (binOp .eql 73 (.map r) (.map none)).run Try.prog w = .ok (.bool r.isNone) w := fun w r => run_eql_map_nil w _ _ _ r Try.underlying73
  have HGM := Lib.hid hg0
  unfold ptrV
  clear H hl hs hf hno hI hz hg0 he0 ht0 hb hW hL0 hLb hsW
  go_enter Try.func45, Try.ntmps45
  go_upto_region 3 with (fail)
  rw [HB.out, HW.out]
  have HG := HGM
  clear d2 d3 f3 HGM hmm0 dl
  obtain ⟨s, f, stp, n, hl, -, -, hnz, hm⟩ := HG.out.ex
  have c2 := hl.cell (o := 2) rfl
  have hhl := hl.lt
  have hlk := hm.look Try.underlying73 (z := .pointer none) (by kernel_rfl) HI.out
  rw [show (tbF M.tb tp x).getD (.pointer none) = .pointer none by unfold tbF; rw [HNO.out]; rfl] at hlk
  have hmm := @run_makeMap Try.prog
  obtain ⟨g1, hg1⟩ : ∃ g1, W.heap.size = g1 := ⟨_, rfl⟩
  have hsz1 : (W.alloc (.map #[] 0)).heap.size = g1 + 1 := by rw [← hg1]; simp
  have HM := Lib.hid hm
  have HG1 := Lib.hid hg1
  have HSZ1 := Lib.hid hsz1
  have hn : n < maxLen := by have := HZ.out; unfold maxLen; omega
  have HLT : Hid ((((W.alloc (.map #[] 0)).alloc (.cells #[.int .i64 0, .map (some g1)] 123)).cell? ⟨h, 2, none⟩ = some (.map (some b)))) := Lib.hid (((hl.below (Below.allocs W (.map #[] 0))).below (Below.allocs _ (.cells #[.int .i64 0, .map (some g1)] 123))).cell (o := 2) rfl)
  have HN := Lib.hid hn
  have HNZ := Lib.hid hnz
  have HL := Lib.hid hl
  clear hm hg1 hsz1 hn hl hnz
  go_wp2_with (first | (at_mapUpdate; rw [HG1.out]; refine put_f rfl _ _ _ 73 rfl 108 Try.underlying73 b n (tbF M.tb tp) rfl ((HM.out.below (Below.allocs _ _)).below (Below.allocs _ _)) HN.out x HI.out rfl (.pointer (some ⟨g1 + 1, 0, none⟩)) (by first | rfl | simp [HG1.out]) ?_; intro w5 hm5 hg5; have HEND := Lib.hid (made HG.out HNO.out HI.out HG1.out HL.out HNZ.out HM.out hm5 hg5); obtain ⟨s', f', stp', n', hl5, -, -, -, hm5'⟩ := HEND.out.1.ex; have c5 := hl5.cell (o := 2) rfl; have hlk5 := hm5'.look Try.underlying73 (z := .pointer none) (by kernel_rfl) HI.out; rw [show (tbF (M.setTb x ⟨0, fun _ => []⟩).tb (fun y => if y = x then g1 + 1 else tp y) x).getD (.pointer none) = .pointer (some ⟨g1 + 1, 0, none⟩) from (by unfold tbF Hp.setTb; simp [ptrV])] at hlk5; clear hm5 hg5 hlk hl5 hm5' c2 hmm) | go_in)
  go_ret
  refine ⟨_, rfl, b, _, _, by simp, HEND.out.1, HE0.out.trans (HEND.out.2.1.mono HSW.out), HT0.out.trans HEND.out.2.2.1 (fun k hk hF => ?_)⟩
  rcases HE0.out.new k hF with hF | hF
  · exact hF
  · omega

/-- The table of x: it is there, or it is made. -/
theorem table_is (w : World) (h : Nat) (M : Hp) (z : Nat) (L : Nat → Lab) (x : Int) (hI : I64 x) (hz : z ≤ 100000) (H : HpM w h M z L) :
    Calls Try.prog 45 #[ptrV h, .int .i64 x] w fun e w' => ∃ g, e = .returned (ptrV g) ∧ ∃ b L' tp', g = tp' x ∧ HpG w' h (M.opn x) (z + 1) L' b tp' ∧ Ext w.heap.size L L' ∧ Touch (Fof L) w w' := by
  obtain ⟨s, f, m, stp, hl, hs, hf, ht⟩ := H.ex
  unfold Hp.opn
  rcases ht with ⟨rfl, hno⟩ | ⟨b, n, tp, rfl, h1, h2, h3, h4⟩
  · rw [hno x]
    exact table_first w h M z L x hI hz s f stp H hl hs hf hno
  · have hG : HpG w h M z L b tp := ⟨H.lt, H.hp, H.nz, H.fz, h1, ⟨s, f, stp, n, hl, hs, hf, h2, h3⟩, h4⟩
    cases hx : M.tb x with
    | none =>
      refine (table_new w h M z L b tp x hI hz hG hx).mono ?_
      rintro e w' ⟨g, rfl, L', tp', r⟩
      exact ⟨g, rfl, b, L', tp', r⟩
    | some T =>
      refine (table_there w h M z L b tp x T hI hG hx).mono ?_
      rintro e w' ⟨rfl, rfl⟩
      exact ⟨_, rfl, b, L, tp, rfl, hG.more (Nat.le_succ z), Ext.refl _ _, Touch.refl _ _⟩

end Go.Proofs.Ytbgnbaogclnpgaa
