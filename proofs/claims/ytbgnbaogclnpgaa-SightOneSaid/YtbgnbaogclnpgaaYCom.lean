/-
  end, Commit, Abort: walked (stage 9).
-/
import Derived.Test.YtbgnbaogclnpgaaYIter
import Derived.Test.YtbgnbaogclnpgaaYBegin
namespace Go.Proofs.Ytbgnbaogclnpgaa
open Go.RowKit
set_option linter.unusedVariables false

theorem Tab.congr {W : World} {t : Nat} {T T' : Tb} {F : Nat → Prop} (h : Tab W t T F) (hn : T'.n = T.n) (hl : T'.last = T.last) (hf : ∀ j, j < T.n → recT T' j = recT T j) : Tab W t T' F := by
  obtain ⟨s, hr⟩ := h.raw
  exact hr.tab hn (by rw [hl]) hf

/-- A state is written. -/
theorem Tab.mark {W : World} {t : Nat} {T T' : Tb} {F : Nat → Prop} (h : Tab W t T F) {k s : Nat} (hk : k < T.n) (hn : T'.n = T.n) (hl : T'.last = T.last) (hf : ∀ j, j < T.n → recT T' j = updR (recT T) k ((recT T k).set 0 (.int .u8 s)) j) :
    ∃ b c, t < W.heap.size ∧ b < W.heap.size ∧ W.cell? ⟨t, 0, none⟩ = some (.slice (some ⟨b, 0, none⟩) T.n c) ∧ T.n ≤ c ∧ W.cell? ⟨b, k * 5, none⟩ = some (.int .u8 (T.st (k + 1))) ∧ W.frozen? ⟨b, k * 5, none⟩ = false ∧
      Tab (W.setCell ⟨b, k * 5, none⟩ (.int .u8 s)) t T' F ∧ Touch F W (W.setCell ⟨b, k * 5, none⟩ (.int .u8 s)) := by
  obtain ⟨v, hr⟩ := h.raw
  obtain ⟨b, c, rfl, hnc, hcm, hbl, hat, hfz⟩ := hr.row.at hk
  obtain ⟨h1, h2⟩ := hr.set (b := b) rfl hk (show 0 < 5 by omega) (o := k * 5) rfl (.int .u8 s)
  exact ⟨b, c, hr.lit.lt, hbl, hr.lit.cell rfl, hnc, hat k hk 0 _ rfl, hfz _, h1.tab hn (by rw [hl]) hf, h2⟩

theorem put_rec {T : Tb} {p : List Nat} {s k : Nat} (j : Nat) : recT (T.put (p ++ [k + 1]) s) j = updR (recT (T.put p s)) k ((recT (T.put p s) k).set 0 (.int .u8 s)) j := by
  unfold updR recT
  by_cases hj : j = k
  · subst hj
    simp only [if_true, List.set]
    rw [Tb.put_in (by simp)]
    rfl
  · rw [if_neg hj]
    have e : (T.put (p ++ [k + 1]) s).st (j + 1) = (T.put p s).st (j + 1) := by
      by_cases hm : j + 1 ∈ p
      · rw [Tb.put_in hm, Tb.put_in (List.mem_append.2 (.inl hm))]
      · rw [Tb.put_out hm, Tb.put_out (fun h => (List.mem_append.1 h).elim hm (fun h => by simp at h; omega))]
    rw [e]
    rfl

theorem tput_nil (T : Tb) (s : Nat) : T.put [] s = T := by
  unfold Tb.put
  simp

theorem leaves_one {P : Program} {n : Nat} {fn : Func} {tmps : Array Value} {R : Ending → World → Prop} {W : World} {D : Nat} (hD : W.heap[D]? = some (.deferred (some [])))
    (hR : ∀ W', Touch (fun k => k = D) W W' → ∃ v, (results fn tmps).run P W' = .ok v W' ∧ R (.returned v) W') : LeavesInM .wide n P fn tmps R [{ target := .collected D, args := #[] }] .returning W := by
  refine ⟨by simp, .inl ⟨D, _, rfl, run_takeDeferred hD, ?_⟩⟩
  exact hR _ (touch_putF W _ rfl)

/-- What holds between the turns of end's range. -/
structure EndI (w : World) (t : Nat) (T : Tb) (F : Nat → Prop) (e id s g : Nat) (p : List Nat) (W : World) : Prop where
  know : Know t T F e id s p W
  bt : Lit W g 27 [.pointer (some ⟨t, 0, none⟩)]
  bs : Lit W (g + 1) 5 [.int .u8 s]
  tou : Touch F w W

theorem EndI.old {w : World} {t : Nat} {T : Tb} {F : Nat → Prop} {e id s g n0 : Nat} (hF : ∀ k, F k → k < n0) (he : e + 2 < n0) (hg : g + 1 < n0) (hw : w.heap.size ≤ n0) : OldP n0 (EndI w t T F e id s g) := by
  intro p W W' h hb
  have hst : Stay (fun k => k < n0) W W' := ⟨hb.size, fun k _ hk => hb.block k hk⟩
  refine ⟨⟨h.know.tab.stay (hst.mono hF), h.know.cau.stay hst (by omega) (by omega) he⟩, h.bt.stay hst (by omega), h.bs.stay hst hg, h.tou.trans (F' := fun k => n0 ≤ k) ⟨hb.os, hb.tape, hb.output, hb.size, fun k _ hk => hb.block k (by omega)⟩ (fun k hk h' => by omega)⟩

/-- A turn: the state is written. -/
theorem EndI.turn {w W : World} {t : Nat} {T : Tb} {F : Nat → Prop} {e id s g n0 k : Nat} {p : List Nat} (h : EndI w t T F e id s g p W) (hk : k < T.n) (hF : ∀ k, F k → k < w.heap.size) (he : w.heap.size ≤ e) (hg : w.heap.size ≤ g) (hn0 : w.heap.size ≤ n0) :
    ∃ b c, t < W.heap.size ∧ b < W.heap.size ∧ W.cell? ⟨t, 0, none⟩ = some (.slice (some ⟨b, 0, none⟩) T.n c) ∧ T.n ≤ c ∧ (∃ v, W.cell? ⟨b, k * 5, none⟩ = some v) ∧ W.frozen? ⟨b, k * 5, none⟩ = false ∧
      EndI w t T F e id s g (p ++ [k + 1]) (W.setCell ⟨b, k * 5, none⟩ (.int .u8 s)) ∧ Touch (fun k => k < n0) W (W.setCell ⟨b, k * 5, none⟩ (.int .u8 s)) := by
  obtain ⟨b, c, h1, h2, h3, h4, h5, h6, h7, h8⟩ := h.know.tab.mark (T' := T.put (id :: (p ++ [k + 1])) s) (s := s) hk rfl rfl (fun j _ => put_rec (p := id :: p) j)
  have hst := h8.stay (G := fun k => w.heap.size ≤ k) (fun k hk hx => by have := hF k hx; omega)
  exact ⟨b, c, h1, h2, h3, h4, ⟨_, h5⟩, h6, ⟨⟨h7, h.know.cau.stay hst he (by omega) (by omega)⟩, h.bt.stay hst hg, h.bs.stay hst (by omega), h.tou.trans h8 (fun _ _ h => h)⟩, h8.mono (fun k hk => by have := hF k hk; show k < n0; omega)⟩

/-- The end of the range. -/
theorem EndI.is {w W : World} {t : Nat} {T : Tb} {F : Nat → Prop} {e id s g : Nat} {p : List Nat} (h : EndI w t T F e id s g p W) (hok : T.Ok) (hid : 1 ≤ id ∧ id ≤ T.n) (hs : T.st id < s) (hs3 : s ≤ 3) (hw : Walk T id s p []) : Is W t (T.fin id s) F := by
  refine ⟨hok.fin ⟨by omega, hs3⟩, h.know.tab.congr rfl rfl fun j hj => ?_⟩
  have hf := hw.fin hok hid hs (j + 1) (by omega) (by exact hj)
  unfold recT
  rw [hf]
  rfl

section
attribute [local go_sem] Oper.semAt_some

set_option maxRecDepth 100000 in
set_option maxHeartbeats 4000000 in
theorem end_ok (w : World) (t : Nat) (T : Tb) (F : Nat → Prop) (hn : T.n ≤ 1000) (k s : Nat) (hk : k < T.n) (hst : T.st (k + 1) = 1) (hs2 : 2 ≤ s) (hs3 : s ≤ 3) (h : Is w t T F) :
    Calls Try.prog 25 #[ptrV t, .int .i64 ((k : Int) + 1), .int .u8 s] w fun x w' => x = .returned (.int .i64 0) ∧ Is w' t (T.fin (k + 1) s) F ∧ Touch F w w' := by
  have mixed : Try.prog.follows Departure.mixedOrders = true := by kernel_rfl
  obtain ⟨g, hg⟩ : ∃ g, w.heap.size = g := ⟨_, rfl⟩
  obtain ⟨W, hW⟩ : ∃ W, (w.alloc (.cells #[.pointer (some ⟨t, 0, none⟩)] 27)).alloc (.cells #[.int .u8 s] 5) = W := ⟨_, rfl⟩
  have lt0 := Lit.new w 27 [.pointer (some ⟨t, 0, none⟩)]
  have bb0 := Below.allocs w (.cells #[.pointer (some ⟨t, 0, none⟩)] 27)
  have lt1 := Lit.new (w.alloc (.cells #[.pointer (some ⟨t, 0, none⟩)] 27)) 5 [.int .u8 s]
  have bb1 := Below.allocs (w.alloc (.cells #[.pointer (some ⟨t, 0, none⟩)] 27)) (.cells #[.int .u8 s] 5)
  have e1 : (w.alloc (.cells #[.pointer (some ⟨t, 0, none⟩)] 27)).heap.size = g + 1 := by rw [← hg]; simp
  rw [e1] at lt1
  have lt0' := lt0.below bb1
  rw [hg] at lt0'
  rw [show ([Value.pointer (some ⟨t, 0, none⟩)] : List Value).toArray = (#[.pointer (some ⟨t, 0, none⟩)] : Array Value) from rfl, show ([Value.int .u8 s] : List Value).toArray = (#[.int .u8 s] : Array Value) from rfl] at *
  rw [hW] at lt0' lt1
  have hbW : Below w.heap.size w W := by rw [← hW]; exact below_tr bb0 bb1
  have hrn := running_is W t T F ((k : Int) + 1) (by unfold I64; omega) (h.below hbW)
  have herr : T.err ((k : Int) + 1) = 0 := by
    unfold Tb.err
    rw [if_pos (by omega), if_pos (by rw [show ((k : Int) + 1).toNat = k + 1 by omega]; exact hst)]
  rw [herr] at hrn
  have HRN := Lib.hid hrn
  have HL0 := Lib.hid lt0'
  have HL1 := Lib.hid lt1
  have HBW := Lib.hid hbW
  have HW := Lib.hid hW
  have HH := Lib.hid h
  have HG := Lib.hid hg
  have p0 := lt0'.cell (o := 0) rfl
  have plt := lt0'.lt
  unfold ptrV at HRN ⊢
  clear lt0 bb0 lt1 bb1 e1 lt0' hbW hrn herr hW h hg
  refine (callsIn_wide (n := 1)).1 ?_
  refine callsIn_of_wp_marks Try.func25 rfl trivial ?_ rfl
  simp only [Try.ntmps25, List.size_toArray, List.length_cons, List.length_nil, Nat.reduceAdd, Nat.reduceSub, Array.replicate_succ, Array.replicate_zero, List.push_toArray, List.append_toArray, List.nil_append, List.cons_append]
  refine wpIn_wide.2 ?_
  clear p0 plt
  go_upto_region 1 with (fail)
  rw [HW.out, HG.out]
  have p0 := HL0.out.cell (o := 0) rfl
  have plt := HL0.out.lt
  go_wp2_with fail
  refine HRN.out.mono ?_
  rintro x w1 ⟨rfl, hb1⟩
  clear p0 plt
  have hi1 := HH.out.below (below_tr HBW.out hb1)
  have HL2 := Lib.hid (HL0.out.below hb1)
  have HL3 := Lib.hid (HL1.out.below hb1)
  have HB1 := Lib.hid (below_tr HBW.out hb1)
  obtain ⟨b, c, htl, hbl, c0, hnc, c1, f1, ht2, hto⟩ := hi1.tab.below (below_drw w1) |>.mark (k := k) (s := s) (T' := T.put [k + 1] s) hk rfl rfl (fun j _ => by have := put_rec (T := T) (p := []) (s := s) (k := k) j; rw [tput_nil] at this; exact this)
  obtain ⟨n, hn9⟩ : ∃ n, T.n = n := ⟨_, rfl⟩
  rw [hn9] at c0 hnc
  have hF := HH.out.lt
  have hl4 : Lit (w1.drew.setCell ⟨b, k * 5, none⟩ (.int .u8 s)) g 27 [.pointer (some ⟨t, 0, none⟩)] := HL2.out.stay (W := w1) (((Touch.of_below (below_drw w1)).trans hto (fun _ _ h => h)).stay (G := fun k => w.heap.size ≤ k) (fun k hk hx => by have := hF k hx; omega)) (Nat.le_of_eq HG.out)
  have hl5 : Lit (w1.drew.setCell ⟨b, k * 5, none⟩ (.int .u8 s)) (g + 1) 5 [.int .u8 s] := HL3.out.stay (W := w1) (((Touch.of_below (below_drw w1)).trans hto (fun _ _ h => h)).stay (G := fun k => w.heap.size ≤ k) (fun k hk hx => by have := hF k hx; omega)) (by show w.heap.size ≤ g + 1; have := HG.out; omega)
  have htw : Touch F w (w1.drew.setCell ⟨b, k * 5, none⟩ (.int .u8 s)) := ((Touch.of_below HB1.out).trans (Touch.of_below (below_drw w1)) (fun _ _ h => h)).trans hto (fun _ _ h => h)
  have HT2 := Lib.hid ht2
  have HL4 := Lib.hid hl4
  have HL5 := Lib.hid hl5
  have HTW := Lib.hid htw
  have HFL := Lib.hid hF
  have p0 := HL2.out.cell (o := 0) rfl
  have p1 := HL3.out.cell (o := 0) rfl
  have plt := HL3.out.lt
  have plt0 := HL2.out.lt
  have htl' : t < w1.heap.size := htl
  have hbl' : b < w1.heap.size := hbl
  have c0' : w1.cell? ⟨t, 0, none⟩ = some (.slice (some ⟨b, 0, none⟩) n c) := c0
  have c1' : w1.cell? ⟨b, k * 5, none⟩ = some (.int .u8 (T.st (k + 1))) := c1
  have f1' : w1.frozen? ⟨b, k * 5, none⟩ = false := f1
  have hk0 : (0 : Int) ≤ k := by omega
  have hkn : (k : Int) < n := by omega
  have hkw : wrap64 (k : Int) = k := wr (by omega)
  have HCC := Lib.hid (And.intro c1 (And.intro f1 hbl))
  clear hi1 hb1 htl hbl c0 c1 f1 ht2 hto hF hl4 hl5 htw HL2 HL3 HB1
  go_upto_region 4 with (fail)
  go_still_tail 7, (by kernel_rfl)
  change wpList _ _ _ _ _ w1.drew
  clear p0 p1 plt plt0 htl' hbl' c0' c1' f1'
  obtain ⟨c1, f1, hbl⟩ := HCC.out
  clear HCC
  generalize w1.drew = W1 at *
  go_upto_region 5 with (fail)
  obtain ⟨W2, hW2⟩ : ∃ W2, W1.setCell ⟨b, k * 5, none⟩ (.int .u8 s) = W2 := ⟨_, rfl⟩
  have hbc := below_is W2 t (k + 1) s
  rw [hW2] at HT2 HL4 HL5 HTW ⊢
  have p0 := HL4.out.cell (o := 0) rfl
  have p1 := HL5.out.cell (o := 0) rfl
  have plt := HL5.out.lt
  have plt0 := HL4.out.lt
  have hkc : (((k + 1 : Nat) : Nat) : Int) = (k : Int) + 1 := by omega
  rw [hkc] at hbc
  have HBC := Lib.hid hbc
  have HKC := Lib.hid hkc
  clear c1 f1 hbl hW2 hbc hkc hkw hk0 hkn
  go_wp2_with fail
  refine HBC.out.mono ?_
  rintro x w5 ⟨rfl, hcau, hb5⟩
  obtain ⟨e, he⟩ : ∃ e, W2.heap.size = e := ⟨_, rfl⟩
  rw [he] at hcau
  simp only [he]
  have HI : Hid (EndI w t T F e (k + 1) s g [] w5) := Lib.hid ⟨⟨HT2.out.below hb5, hcau⟩, HL4.out.below hb5, HL5.out.below hb5, HTW.out.trans (Touch.of_below hb5) (fun _ _ h => h)⟩
  have HE : Hid (w.heap.size ≤ e ∧ g + 1 < e ∧ w.heap.size ≤ w5.heap.size) := Lib.hid ⟨by have := HTW.out.size; omega, by omega, by have := HTW.out.size; have := hb5.size; omega⟩
  have HE2 : Hid (e + 2 < w5.heap.size) := Lib.hid hcau.ps.lt
  clear p0 p1 plt plt0 HBC hcau hb5 he HT2 HL4 HL5 HTW
  unfold itV
  go_wp2_with fail
  refine (wpIn_wide (n := 1)).1 ?_
  refine wpIn_rangeF (enc := encI) (fun p => ∀ x ∈ p, 1 ≤ x ∧ x ≤ T.n) (fun S => Walk T (k + 1) s S []) (EndI w t T F e (k + 1) s g) (Know t T F e (k + 1) s) (EndI.old (fun j hj => by have := HFL.out j hj; have := HE.out; omega) HE2.out (by have := HE.out; have := HE2.out; omega) (by have := HE.out; omega)) (fun _ _ h => h.know) HI.out rfl (enters_of Try.func56 (by kernel_rfl) rfl) (fun _ => rfl) ?round ?call ?done
  case round =>
    intro l2 x p W5 hl hW5 hI hOk
    clear hl
    simp only [encI]
    gi_wp2
    refine ⟨trivial, fun W6 hI6 hsz => ?_⟩
    have hx := hOk x (by simp)
    obtain ⟨j, rfl⟩ : ∃ j, x = j + 1 := ⟨x - 1, by omega⟩
    have hold := EndI.old (w := w) (t := t) (T := T) (F := F) (e := e) (id := k + 1) (s := s) (g := g) (n0 := w5.heap.size) (fun j hj => by have := HFL.out j hj; have := HE.out; omega) HE2.out (by have := HE.out; have := HE2.out; omega) (by have := HE.out; omega)
    have hI7 := hold hI6 ((below_drw W6).mono (by omega))
    obtain ⟨b6, c6, d0, d1, d2, d3, ⟨v6, d4⟩, d5, hI8, ht8⟩ := hI7.turn (k := j) (n0 := w5.heap.size) (by omega) HFL.out (by have := HE.out; omega) (Nat.le_of_eq HG.out) (by have := HE.out; omega)
    have p0 := hI6.bt.cell (o := 0) rfl
    have p1 := hI6.bs.cell (o := 0) rfl
    have plt := hI6.bs.lt
    have plt0 := hI6.bt.lt
    have e0 : t < W6.heap.size := d0
    have e2 : W6.cell? ⟨t, 0, none⟩ = some (.slice (some ⟨b6, 0, none⟩) n c6) := by rw [← hn9]; exact d2
    have HD := Lib.hid (And.intro d1 (And.intro d4 d5))
    have HI8 := Lib.hid hI8
    have HT8 := Lib.hid ht8
    have hj0 : (0 : Int) ≤ j := by omega
    have hjn : (j : Int) < n := by omega
    rw [hn9] at d3
    have hjc : ((j + 1 : Nat) : Int) = (j : Int) + 1 := by omega
    have hjw : wrap64 (j : Int) = j := wr (by omega)
    rw [hjc]
    clear d0 d1 d2 d4 d5 hI8 ht8 hI7 hold hI6 hI hOk hx hsz hW5 hjc
    gi_wp2_with fail
    refine RX.wpIn_region_still_tail (r := some l2) 7 mixed (by kernel_rfl) (by kernel_rfl) ?_
    simp only [List.take_succ_cons, List.take_zero, List.drop_succ_cons, List.drop_zero]
    iterate 7 (with_reducible apply wpStill_step; intro K hK; go_simp; with_reducible apply hK; clear hK K)
    with_reducible apply wpStill_nil
    change wpListIn (Fence.wide.inRound l2) _ _ _ _ _ _ W6.drew
    clear p0 p1 plt plt0 e0 e2
    obtain ⟨d1, d4, d5⟩ := HD.out
    gi_wp2_with fail
    exact ⟨HI8.out, (Touch.of_below (below_drw W6)).trans HT8.out (fun _ _ h => h)⟩
  case call =>
    intro l2 J2 W5 hP hJ hsz hb
    have hit := iter_is t T F e (k + 1) s l2 (w5.heap.size + 2) J2 HH.out.ok ⟨by omega, by omega⟩ hn hs3 hP W5 hJ (by omega)
    exact hit
  case done =>
    intro D S W5 hI hS hD hDb
    have hIs := hI.is HH.out.ok ⟨by omega, by omega⟩ (by omega) hs3 hS
    have hDF : ∀ j, F j → j ≠ D := fun j hj => by have := HFL.out j hj; have := HE.out; omega
    have HIS : Hid (∀ W', Touch (fun k => k = D) W5 W' → Is W' t (T.fin (k + 1) s) F ∧ Touch F w W') := Lib.hid (fun W' ht => ⟨hIs.stay (ht.stay (G := F) (fun j hj hx => hDF j hj hx)), hI.tou.trans ht (fun j hj hx => by have h1 : j = D := hx; have := HE.out; omega)⟩)
    have HDB := Lib.hid hDb
    clear hIs hI hS hD hDb hDF
    try gi_wp2_with fail
    go_wp2_with fail
    refine leaves_one HDB.out fun W' ht => ⟨.int .i64 0, by simp [results, Try.results25, go_sem], rfl, ?_⟩
    exact HIS.out W' ht
end

set_option maxRecDepth 100000 in
set_option maxHeartbeats 2000000 in
theorem end_no (w : World) (t : Nat) (T : Tb) (F : Nat → Prop) (id : Int) (s : Nat) (hi : I64 id) (x : Int) (hx : T.err id = x) (hx0 : x ≠ 0) (h : Is w t T F) :
    Calls Try.prog 25 #[ptrV t, .int .i64 id, .int .u8 s] w fun e w' => e = .returned (.int .i64 x) ∧ Below w.heap.size w w' := by
  obtain ⟨g, hg⟩ : ∃ g, w.heap.size = g := ⟨_, rfl⟩
  obtain ⟨W, hW⟩ : ∃ W, (w.alloc (.cells #[.pointer (some ⟨t, 0, none⟩)] 27)).alloc (.cells #[.int .u8 s] 5) = W := ⟨_, rfl⟩
  have lt0 := Lit.new w 27 [.pointer (some ⟨t, 0, none⟩)]
  have bb0 := Below.allocs w (.cells #[.pointer (some ⟨t, 0, none⟩)] 27)
  have bb1 := Below.allocs (w.alloc (.cells #[.pointer (some ⟨t, 0, none⟩)] 27)) (.cells #[.int .u8 s] 5)
  have lt0' := lt0.below bb1
  rw [hg, show ([Value.pointer (some ⟨t, 0, none⟩)] : List Value).toArray = (#[.pointer (some ⟨t, 0, none⟩)] : Array Value) from rfl, hW] at lt0'
  have hbW : Below w.heap.size w W := by rw [← hW]; exact below_tr bb0 bb1
  have hrn := running_is W t T F id hi (h.below hbW)
  rw [hx] at hrn
  have HRN := Lib.hid hrn
  have HL0 := Lib.hid lt0'
  have HBW := Lib.hid hbW
  have HW := Lib.hid hW
  have HG := Lib.hid hg
  unfold ptrV at HRN ⊢
  clear lt0 bb0 bb1 lt0' hbW hrn hW h hg hx
  go_enter Try.func25, Try.ntmps25
  go_upto_region 1 with (fail)
  rw [HW.out, HG.out]
  have p0 := HL0.out.cell (o := 0) rfl
  have plt := HL0.out.lt
  go_wp2_with fail
  refine HRN.out.mono ?_
  rintro e w1 ⟨rfl, hb1⟩
  have HB1 := Lib.hid (below_tr HBW.out hb1)
  clear p0 plt hb1
  go_wp2_with fail
  go_ret
  exact ⟨rfl, HB1.out⟩

set_option maxRecDepth 100000 in
theorem end_nil (w : World) (id : Int) (s : Nat) : Calls Try.prog 25 #[.pointer none, .int .i64 id, .int .u8 s] w fun e w' => e = .returned (.int .i64 2) ∧ Below w.heap.size w w' := by
  obtain ⟨g, hg⟩ : ∃ g, w.heap.size = g := ⟨_, rfl⟩
  obtain ⟨W, hW⟩ : ∃ W, (w.alloc (.cells #[.pointer none] 27)).alloc (.cells #[.int .u8 s] 5) = W := ⟨_, rfl⟩
  have lt0 := Lit.new w 27 [.pointer none]
  have bb0 := Below.allocs w (.cells #[.pointer none] 27)
  have bb1 := Below.allocs (w.alloc (.cells #[.pointer none] 27)) (.cells #[.int .u8 s] 5)
  have lt0' := lt0.below bb1
  rw [hg, show ([Value.pointer none] : List Value).toArray = (#[.pointer none] : Array Value) from rfl, hW] at lt0'
  have hbW : Below w.heap.size w W := by rw [← hW]; exact below_tr bb0 bb1
  have HRN := Lib.hid (running_nil W id)
  have HL0 := Lib.hid lt0'
  have HBW := Lib.hid hbW
  have HW := Lib.hid hW
  have HG := Lib.hid hg
  clear lt0 bb0 bb1 lt0' hbW hW hg
  go_enter Try.func25, Try.ntmps25
  go_upto_region 1 with (fail)
  rw [HW.out, HG.out]
  have p0 := HL0.out.cell (o := 0) rfl
  have plt := HL0.out.lt
  go_wp2_with fail
  refine HRN.out.mono ?_
  rintro e w1 ⟨rfl, hb1⟩
  have HB1 := Lib.hid (below_tr HBW.out hb1)
  clear p0 plt hb1
  go_wp2_with fail
  go_ret
  exact ⟨rfl, HB1.out⟩

end Go.Proofs.Ytbgnbaogclnpgaa

namespace Go.Proofs.Ytbgnbaogclnpgaa
open Go.RowKit
set_option linter.unusedVariables false

def Tb.finT (T : Tb) (id : Int) (s : Nat) : Tb := if T.err id = 0 then T.fin id.toNat s else T

theorem end_is (w : World) (t : Nat) (T : Tb) (F : Nat → Prop) (hn : T.n ≤ 1000) (id : Int) (s : Nat) (hi : I64 id) (hs2 : 2 ≤ s) (hs3 : s ≤ 3) (h : Is w t T F) :
    Calls Try.prog 25 #[ptrV t, .int .i64 id, .int .u8 s] w fun x w' => x = .returned (.int .i64 (T.err id)) ∧ Is w' t (T.finT id s) F ∧ Touch F w w' := by
  unfold Tb.finT
  by_cases he : T.err id = 0
  · obtain ⟨h1, h2, h3⟩ := Tb.err_ok he
    obtain ⟨k, rfl⟩ : ∃ k : Nat, id = (k : Int) + 1 := ⟨(id - 1).toNat, by omega⟩
    rw [he, if_pos rfl]
    rw [show ((k : Int) + 1).toNat = k + 1 by omega] at h3 ⊢
    exact end_ok w t T F hn k s (by omega) h3 hs2 hs3 h
  · rw [if_neg he]
    refine (end_no w t T F id s hi _ rfl he h).mono ?_
    rintro e w' ⟨rfl, hb⟩
    exact ⟨rfl, h.below hb, Touch.of_below hb⟩

theorem abort_is (w : World) (t : Nat) (T : Tb) (F : Nat → Prop) (hn : T.n ≤ 1000) (id : Int) (hi : I64 id) (h : Is w t T F) :
    Calls Try.prog 12 #[ptrV t, .int .i64 id] w fun x w' => x = .returned (.int .i64 (T.err id)) ∧ Is w' t (T.aboT id) F ∧ Touch F w w' := by
  have he := end_is w t T F hn id 3 hi (by omega) (by omega) h
  have HE := Lib.hid he
  unfold ptrV at HE ⊢
  clear he h
  go_enter Try.func12, Try.ntmps12
  go_wp2_with fail
  refine HE.out.mono ?_
  rintro e w1 ⟨rfl, h1, h2⟩
  have H1 := Lib.hid h1
  have H2 := Lib.hid h2
  clear h1 h2 HE
  go_wp2_with fail
  go_ret
  exact ⟨rfl, H1.out, H2.out⟩

theorem abort_nil (w : World) (id : Int) : Calls Try.prog 12 #[.pointer none, .int .i64 id] w fun x w' => x = .returned (.int .i64 2) ∧ Below w.heap.size w w' := by
  have he := end_nil w id 3
  have HE := Lib.hid he
  clear he
  go_enter Try.func12, Try.ntmps12
  go_wp2_with fail
  refine HE.out.mono ?_
  rintro e w1 ⟨rfl, h1⟩
  have H1 := Lib.hid h1
  clear h1 HE
  go_wp2_with fail
  go_ret
  exact ⟨rfl, H1.out⟩

/-- A number is given. -/
theorem Tab.give {W : World} {t : Nat} {T : Tb} {F : Nat → Prop} (h : Tab W t T F) {k : Nat} (hk : k < T.n) :
    ∃ b c, t < W.heap.size ∧ b < W.heap.size ∧ b ≠ t ∧ W.cell? ⟨t, 0, none⟩ = some (.slice (some ⟨b, 0, none⟩) T.n c) ∧ W.cell? ⟨t, 1, none⟩ = some (.int .i64 T.last) ∧ W.frozen? ⟨t, 1, none⟩ = false ∧ T.n ≤ c ∧ W.cell? ⟨b, k * 5 + 2, none⟩ = some (.int .i64 (T.num (k + 1))) ∧ W.frozen? ⟨b, k * 5 + 2, none⟩ = false ∧
      ((W.setCell ⟨t, 1, none⟩ (.int .i64 ((T.last : Int) + 1))).cell? ⟨t, 0, none⟩ = some (.slice (some ⟨b, 0, none⟩) T.n c) ∧ (W.setCell ⟨t, 1, none⟩ (.int .i64 ((T.last : Int) + 1))).cell? ⟨t, 1, none⟩ = some (.int .i64 ((T.last : Int) + 1))) ∧
      Tab (((W.setCell ⟨t, 1, none⟩ (.int .i64 ((T.last : Int) + 1))).drew).setCell ⟨b, k * 5 + 2, none⟩ (.int .i64 ((T.last : Int) + 1))) t (T.give (k + 1)) F ∧ Touch F W (((W.setCell ⟨t, 1, none⟩ (.int .i64 ((T.last : Int) + 1))).drew).setCell ⟨b, k * 5 + 2, none⟩ (.int .i64 ((T.last : Int) + 1))) := by
  obtain ⟨v, hr⟩ := h.raw
  obtain ⟨b, c, rfl, hnc, hcm, hbl, hat, hfz⟩ := hr.row.at hk
  have hbt := hr.own b rfl
  obtain ⟨h1, h2⟩ := hr.setLast ((T.last : Int) + 1)
  obtain ⟨h3, h4⟩ := h1.drew.set (b := b) rfl hk (show 2 < 5 by omega) (o := k * 5 + 2) rfl (.int .i64 ((T.last : Int) + 1))
  refine ⟨b, c, hr.lit.lt, hbl, hbt.2, hr.lit.cell rfl, hr.lit.cell rfl, hr.lit.fz 1, hnc, hat k hk 2 _ rfl, hfz _, ⟨h1.lit.cell rfl, h1.lit.cell rfl⟩, h3.tab rfl rfl fun j hj => ?_, (h2.trans (Touch.of_below (below_drw _)) (fun _ _ h => h)).trans h4 (fun _ _ h => h)⟩
  unfold updR recT
  by_cases hj : j = k
  · subst hj
    simp only [if_true, List.set, Tb.give, upd_same]
    rfl
  · simp only [if_neg hj, Tb.give, upd_ne _ _ _ (show j + 1 ≠ k + 1 by omega)]

set_option maxRecDepth 100000 in
set_option maxHeartbeats 4000000 in
theorem commit_is (w : World) (t : Nat) (T : Tb) (F : Nat → Prop) (hn : T.n ≤ 1000) (hla : T.last ≤ 1000) (id : Int) (hi : I64 id) (h : Is w t T F) :
    Calls Try.prog 11 #[ptrV t, .int .i64 id] w fun x w' => x = .returned (.int .i64 (T.err id)) ∧ Is w' t (T.comT id) F ∧ Touch F w w' := by
  have mixed : Try.prog.follows Departure.mixedOrders = true := by kernel_rfl
  have he := end_is w t T F hn id 2 hi (by omega) (by omega) h
  have HE := Lib.hid he
  have HOK := Lib.hid h.ok
  have HF := Lib.hid h.lt
  unfold ptrV at HE ⊢
  unfold Tb.finT at HE
  unfold Tb.comT
  clear he h
  by_cases her : T.err id = 0
  · obtain ⟨h1, h2, h3⟩ := Tb.err_ok her
    obtain ⟨k, rfl⟩ : ∃ k : Nat, id = (k : Int) + 1 := ⟨(id - 1).toNat, by omega⟩
    rw [her, if_pos rfl] at HE
    rw [her, if_pos rfl]
    have hk1 : ((k : Int) + 1).toNat = k + 1 := by omega
    rw [hk1] at HE h3 ⊢
    obtain ⟨U, hU⟩ : ∃ U, T.fin (k + 1) 2 = U := ⟨_, rfl⟩
    have hUn : U.n = T.n := by rw [← hU]; rfl
    have hUl : U.last = T.last := by rw [← hU]; rfl
    have hUt : U.top = T.top := by rw [← hU]; rfl
    obtain ⟨tp, htp⟩ : ∃ tp, T.top (k + 1) = tp := ⟨_, rfl⟩
    have hgt : U.g U.top ((k : Int) + 1) = (tp : Int) := by
      rw [Tb.g_in (by rw [hUn]; omega), hUt, hk1, htp]
    have htop := HOK.out.top_in (k + 1) (by omega) (by omega)
    unfold Tb.com
    rw [hU] at HE ⊢
    by_cases hp : T.par (k + 1) = 0
    · rw [if_pos hp]
      have ht0 := HOK.out.top0 (k + 1) (by omega) (by omega) hp
      have htk : (tp : Int) = (k : Int) + 1 := by omega
      have HTK := Lib.hid htk
      clear htop ht0 hp htk
      go_enter Try.func11, Try.ntmps11
      go_wp2_with fail
      refine HE.out.mono ?_
      rintro e w1 ⟨rfl, h4, h5⟩
      have hto := top_is w1 t U F ((k : Int) + 1) hi h4.tab
      rw [hgt, HTK.out] at hto
      unfold ptrV at hto
      have H4 := Lib.hid h4
      have H5 := Lib.hid h5
      have HTO := Lib.hid hto
      clear h4 h5 hto HE
      go_wp2_with fail
      refine HTO.out.mono ?_
      rintro e w2 ⟨rfl, hb2⟩
      have h6 := H4.out.below hb2
      obtain ⟨b, c, d0, d1, d2, d3, d4, d5, d6, d7, d8, d9, hend, htou⟩ := h6.tab.give (k := k) (by rw [hUn]; omega)
      obtain ⟨n, hn9⟩ : ∃ n, U.n = n := ⟨_, rfl⟩
      obtain ⟨la, hla9⟩ : ∃ la, U.last = la := ⟨_, rfl⟩
      rw [hn9] at d3 d6 d9
      rw [hla9] at d4 d9 hend htou
      have HD9 := Lib.hid d9
      have HWR : Hid (wrap64 ((la : Int) + 1) = (la : Int) + 1 ∧ wrap64 (k : Int) = k) := Lib.hid ⟨wr (by omega), wr (by omega)⟩
      have hkn : (k : Int) < n := by omega
      have hk0 : (0 : Int) ≤ k := by omega
      have HEND : Hid (Is (((w2.setCell ⟨t, 1, none⟩ (.int .i64 ((la : Int) + 1))).drew).setCell ⟨b, k * 5 + 2, none⟩ (.int .i64 ((la : Int) + 1))) t (U.give (k + 1)) F) := Lib.hid ⟨h6.ok.give _, hend⟩
      have HTOU := Lib.hid ((H5.out.trans (Touch.of_below hb2) (fun _ _ h => h)).trans htou (fun _ _ h => h))
      have HD7 := Lib.hid (And.intro d7 (And.intro d8 d1))
      obtain ⟨hlw, hkw⟩ := HWR.out
      clear hend htou hb2 h6 H4 H5 HTO d7 d8 d9 hn9 hla9 hUn hUl hUt hgt htp hU her h1 h2 h3 hk1
      go_upto_region 4 with (fail)
      obtain ⟨W3, hW3⟩ : ∃ W3, w2.setCell ⟨t, 1, none⟩ (.int .i64 ((la : Int) + 1)) = W3 := ⟨_, rfl⟩
      have e3 : W3.cell? ⟨t, 0, none⟩ = some (.slice (some ⟨b, 0, none⟩) n c) := by rw [← hW3]; exact HD9.out.1
      have e4 : W3.cell? ⟨t, 1, none⟩ = some (.int .i64 ((la : Int) + 1)) := by rw [← hW3]; exact HD9.out.2
      have HS7 : Hid (W3.cell? ⟨b, k * 5 + 2, none⟩ = some (.int .i64 (U.num (k + 1))) ∧ W3.frozen? ⟨b, k * 5 + 2, none⟩ = false ∧ b < W3.heap.size) := Lib.hid (by
        obtain ⟨d7, d8, d1⟩ := HD7.out
        rw [← hW3]
        refine ⟨?_, ?_, by simpa [World.setCell] using d1⟩
        · rw [World.cell?_setCell_other _ _ _ _ (fun e => d2 (congrArg Addr.block e).symm)]; exact d7
        · rw [World.frozen?_setCell]; exact d8)
      have e0 : t < W3.heap.size := by rw [← hW3]; simpa [World.setCell] using d0
      rw [hW3] at HEND HTOU ⊢
      clear d0 d1 d3 d4 d5 hW3 HD7 HD9
      go_still_tail 10, (by kernel_rfl)
      change wpList _ _ _ _ _ W3.drew
      obtain ⟨s7, s8, s1⟩ := HS7.out
      have s7' : W3.drew.cell? ⟨b, k * 5 + 2, none⟩ = some (.int .i64 (U.num (k + 1))) := s7
      have s8' : W3.drew.frozen? ⟨b, k * 5 + 2, none⟩ = false := s8
      have s1' : b < W3.drew.heap.size := s1
      clear e0 e3 e4 s7 s8 s1 HS7
      generalize W3.drew = W4 at *
      go_wp2_with fail
      go_ret
      exact ⟨rfl, HEND.out, HTOU.out⟩
    · rw [if_neg hp]
      have htk : ¬ (tp : Int) = (k : Int) + 1 := fun e => by
        have : tp = k + 1 := by omega
        rw [htp, this] at htop
        exact hp htop.2.2
      clear htop hp
      go_enter Try.func11, Try.ntmps11
      go_wp2_with fail
      refine HE.out.mono ?_
      rintro e w1 ⟨rfl, h4, h5⟩
      have hto := top_is w1 t U F ((k : Int) + 1) hi h4.tab
      rw [hgt] at hto
      unfold ptrV at hto
      have H4 := Lib.hid h4
      have H5 := Lib.hid h5
      have HTO := Lib.hid hto
      clear h4 h5 hto HE
      go_wp2_with fail
      refine HTO.out.mono ?_
      rintro e w2 ⟨rfl, hb2⟩
      have HEND := Lib.hid (H4.out.below hb2)
      have HTOU := Lib.hid (H5.out.trans (Touch.of_below hb2) (fun _ _ h => h))
      clear hb2 HTO H4 H5
      go_wp2_with fail
      go_ret
      exact ⟨rfl, HEND.out, HTOU.out⟩
  · rw [if_neg her] at HE ⊢
    obtain ⟨x, hx⟩ : ∃ x, T.err id = x := ⟨_, rfl⟩
    rw [hx] at HE her ⊢
    clear hx
    go_enter Try.func11, Try.ntmps11
    go_wp2_with fail
    refine HE.out.mono ?_
    rintro e w1 ⟨rfl, h4, h5⟩
    have H4 := Lib.hid h4
    have H5 := Lib.hid h5
    clear h4 h5 HE
    go_wp2_with fail
    go_ret
    exact ⟨rfl, H4.out, H5.out⟩

theorem commit_nil (w : World) (id : Int) : Calls Try.prog 11 #[.pointer none, .int .i64 id] w fun x w' => x = .returned (.int .i64 2) ∧ Below w.heap.size w w' := by
  have he := end_nil w id 2
  have HE := Lib.hid he
  clear he
  go_enter Try.func11, Try.ntmps11
  go_wp2_with fail
  refine HE.out.mono ?_
  rintro e w1 ⟨rfl, h1⟩
  have H1 := Lib.hid h1
  clear h1 HE
  go_wp2_with fail
  go_ret
  exact ⟨rfl, H1.out⟩

end Go.Proofs.Ytbgnbaogclnpgaa
