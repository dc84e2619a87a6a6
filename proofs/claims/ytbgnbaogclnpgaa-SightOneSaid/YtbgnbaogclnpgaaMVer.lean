/-
  sight's versions, and the iterator that it hands out: walked (stage 12).
-/
import Derived.Test.YtbgnbaogclnpgaaMBack
import Derived.Test.YtbgnbaogclnpgaaMMath
namespace Go.Proofs.Ytbgnbaogclnpgaa
open Go.RowKit
set_option linter.unusedVariables false

/-- What a closure of versions has caught. -/
structure CauV (W : World) (e h : Nat) (x y : Int) : Prop where
  ph : Lit W e 25 [.pointer (some ⟨h, 0, none⟩)]
  px : Lit W (e + 1) 3 [.int .i64 x]
  py : Lit W (e + 2) 3 [.int .i64 y]

theorem CauV.below {W W' : World} {e h : Nat} {x y : Int} (H : CauV W e h x y) (hb : Below W.heap.size W W') : CauV W' e h x y := ⟨H.ph.below hb, H.px.below hb, H.py.below hb⟩

def verV (e : Nat) : Value := .func (.func 54) #[] #[.pointer (some ⟨e, 0, none⟩), .pointer (some ⟨e + 1, 0, none⟩), .pointer (some ⟨e + 1 + 1, 0, none⟩)]

theorem versions_is (w : World) (h : Nat) (x y : Int) : Calls Try.prog 38 #[.pointer (some ⟨h, 0, none⟩), .int .i64 x, .int .i64 y] w fun r w' => r = .returned (verV w.heap.size) ∧ CauV w' w.heap.size h x y ∧ Below w.heap.size w w' := by
  have l0 := Lit.new w 25 [.pointer (some ⟨h, 0, none⟩)]
  have b0 := Below.allocs w (.cells #[.pointer (some ⟨h, 0, none⟩)] 25)
  have l1 := Lit.new (w.alloc (.cells #[.pointer (some ⟨h, 0, none⟩)] 25)) 3 [.int .i64 x]
  have b1 := Below.allocs (w.alloc (.cells #[.pointer (some ⟨h, 0, none⟩)] 25)) (.cells #[.int .i64 x] 3)
  have l2 := Lit.new ((w.alloc (.cells #[.pointer (some ⟨h, 0, none⟩)] 25)).alloc (.cells #[.int .i64 x] 3)) 3 [.int .i64 y]
  have b2 := Below.allocs ((w.alloc (.cells #[.pointer (some ⟨h, 0, none⟩)] 25)).alloc (.cells #[.int .i64 x] 3)) (.cells #[.int .i64 y] 3)
  have e1 : (w.alloc (.cells #[.pointer (some ⟨h, 0, none⟩)] 25)).heap.size = w.heap.size + 1 := by simp
  have e2 : ((w.alloc (.cells #[.pointer (some ⟨h, 0, none⟩)] 25)).alloc (.cells #[.int .i64 x] 3)).heap.size = w.heap.size + 1 + 1 := by simp
  rw [e1] at l1
  rw [e2] at l2
  have HC : Hid (CauV _ w.heap.size h x y) := Lib.hid ⟨(l0.below b1).below b2, l1.below b2, l2⟩
  have HB := Lib.hid (below_tr (below_tr b0 b1) b2)
  unfold verV
  clear l0 b0 l1 b1 l2 b2 e1 e2
  go_enter Try.func38, Try.ntmps38
  go_wp2_with fail
  go_ret
  exact ⟨rfl, HC.out, HB.out⟩

abbrev VerE := Nat × Tup × Option Addr × Nat × Nat
def encT (x : VerE) : Array Value := #[.int .i64 x.1, tupV x.2.1 (.slice x.2.2.1 x.2.2.2.1 x.2.2.2.2)]
def tw (p : List VerE) : List (Nat × Tup) := p.map fun x => (x.1, x.2.1)
theorem tw_app (p : List VerE) (x : VerE) : tw (p ++ [x]) = tw p ++ [(x.1, x.2.1)] := by unfold tw; simp
theorem tw_len (p : List VerE) : (tw p).length = p.length := by unfold tw; simp

/-- What the inner range keeps between turns. -/
structure VerI (L : List (Nat × Tup)) (J : List VerE → World → Prop) (by' es l : Nat) (s : Value) (q : List (Nat × Int)) (W : World) : Prop where
  ex : ∃ p, J p W ∧ tw p = L.reverse.take q.length ∧ q.length ≤ L.length
  yb : Lit W by' 115 [.func (.yield l) #[] #[]]
  sb : Lit W es 35 [s]
  row : RowI W s (natI (L.map Prod.fst))

theorem VerI.old {L : List (Nat × Tup)} {J : List VerE → World → Prop} {by' es l n0 n1 : Nat} {s : Value} (hJ : OldP n1 J) (hn : n1 ≤ n0) (hb : by' < n0) (he : es < n0) (hs : ∀ k, s.ownBlock = some k → k < n0) : OldP n0 (VerI L J by' es l s) := by
  intro q W W' h hb'
  obtain ⟨p, h1, h2⟩ := h.ex
  have hst : Stay (fun k => k < n0) W W' := ⟨hb'.size, fun k _ hk => hb'.block k hk⟩
  exact ⟨⟨p, hJ h1 (hb'.mono hn), h2⟩, h.yb.stay hst hb, h.sb.stay hst he, h.row.stay hst hs⟩

/-- A turn of the outer range. -/
theorem VerI.touch {L : List (Nat × Tup)} {J J' : List VerE → World → Prop} {by' es l n1 : Nat} {s : Value} {q q' : List (Nat × Int)} {W W' : World} (h : VerI L J by' es l s q W) (ht : Touch (fun k => k < n1) W W') (hb : n1 ≤ by') (he : n1 ≤ es) (hs : ∀ k, s.ownBlock = some k → n1 ≤ k) (hx : ∃ p, J' p W' ∧ tw p = L.reverse.take q'.length ∧ q'.length ≤ L.length) : VerI L J' by' es l s q' W' := by
  have hst : Stay (fun k => n1 ≤ k) W W' := ht.stay (fun k hk hx => by omega)
  exact ⟨hx, h.yb.stay hst hb, h.sb.stay hst he, h.row.stay hst hs⟩
theorem VerI.below {L : List (Nat × Tup)} {J J' : List VerE → World → Prop} {by' es l : Nat} {s : Value} {q q' : List (Nat × Int)} {W W' : World} (h : VerI L J by' es l s q W) (hb : Below W.heap.size W W') (hx : ∃ p, J' p W' ∧ tw p = L.reverse.take q'.length ∧ q'.length ≤ L.length) : VerI L J' by' es l s q' W' := ⟨hx, h.yb.below hb, h.sb.below hb, h.row.below hb⟩

theorem natI_get {l : List Nat} {i : Nat} (hi : i < l.length) : (natI l).getD i 0 = ((l[i] : Nat) : Int) := by unfold natI; simp [hi]

theorem back_enters : ∀ args w, (callFunc 65 args).run Try.prog w = .ok (.enter 65 args) w := enters_of Try.func65 (by kernel_rfl) rfl
theorem ver_enters : ∀ args w, (callFunc 54 args).run Try.prog w = .ok (.enter 54 args) w := enters_of Try.func54 (by kernel_rfl) rfl

/-- What stands in the slots of a row. -/
theorem vs_tup {A : Ab} (hA : A.Ok) {x y : Int} {i : Nat} (hi : i < (A.vs x y).length) : A.atT (((A.vs x y)[i].1 : Nat) : Int) = (A.vs x y)[i].2 ∧ A.atB (((A.vs x y)[i].1 : Nat) : Int) = true := by
  have hm : (A.vs x y)[i] ∈ A.pl := (List.mem_filter.1 (List.getElem_mem hi)).1
  have ht : A.tupI (((A.vs x y)[i].1 : Nat) : Int) = some (A.vs x y)[i].2 := by
    unfold Ab.tupI
    rw [if_pos (by omega), Int.toNat_natCast]
    exact (hA.tup _ _).2 hm
  unfold Ab.atT Ab.atB
  rw [ht]
  exact ⟨rfl, rfl⟩

theorem bk_last {L : List Int} {q : List (Nat × Int)} {x : Nat × Int} {k : Nat} (hk : k ≤ L.length) (h : q ++ [x] = bk L k) : k = q.length + 1 ∧ x.2 = L.getD (L.length - 1 - q.length) 0 := by
  have e1 : q.length + 1 = k := by
    have := congrArg List.length h
    rw [List.length_append, List.length_singleton, bk_len] at this
    exact this
  subst e1
  rw [bk_next] at h
  have h2 := (List.append_inj' h rfl).2
  rw [List.cons.injEq] at h2
  rw [h2.1]
  exact ⟨rfl, rfl⟩

/-- What a turn of the inner range comes to. -/
theorem ver_turn {A : Ab} (hA : A.Ok) {x y : Int} {L : List (Nat × Tup)} (hL : A.vs x y = L) {q : List (Nat × Int)} {xx : Nat × Int} {k : Nat} (hk : k ≤ (natI (L.map Prod.fst)).length) (h : q ++ [xx] = bk (natI (L.map Prod.fst)) k) :
    ∃ (slot : Nat) (t : Tup), xx.2 = (slot : Int) ∧ A.atT (slot : Int) = t ∧ A.atB (slot : Int) = true ∧ q.length + 1 ≤ L.length ∧ L.reverse.take (q.length + 1) = L.reverse.take q.length ++ [(slot, t)] ∧ t.wf := by
  obtain ⟨e1, e2⟩ := bk_last hk h
  have e3 : (natI (L.map Prod.fst)).length = L.length := by rw [natI_len, List.length_map]
  rw [e3] at hk e2
  have hi : L.length - 1 - q.length < L.length := by omega
  have hi2 : L.length - 1 - q.length < (A.vs x y).length := by rw [hL]; exact hi
  obtain ⟨h1, h2⟩ := vs_tup hA hi2
  have h3 : (A.vs x y)[L.length - 1 - q.length] = L[L.length - 1 - q.length] := by simp only [hL]
  rw [h3] at h1 h2
  refine ⟨L[L.length - 1 - q.length].1, L[L.length - 1 - q.length].2, ?_, h1, h2, by omega, ?_, ?_⟩
  · rw [e2, natI_get (by rw [List.length_map]; exact hi), List.getElem_map]
  · rw [List.take_add_one, List.getElem?_reverse (by omega), List.getElem?_eq_getElem hi]
    rfl
  · have hm : (A.vs x y)[L.length - 1 - q.length] ∈ A.pl := (List.mem_filter.1 (List.getElem_mem hi2)).1
    rw [h3] at hm
    exact (hA.wf _ hm).1

section
attribute [local go_sem] Oper.semAt_some

set_option maxRecDepth 100000 in
set_option maxHeartbeats 4000000 in
theorem verit_is (l n1 e h z : Nat) (A : Ab) (F : Nat → Prop) (x y : Int) (hx : I64 x) (hy : I64 y) (hz : z ≤ 90000) (J Jx K : List VerE → World → Prop) (hP : PartyS Try.prog encT (fun p => tw p <+: (A.vs x y).reverse) l n1 J Jx K) (hK : ∀ p W, K p W → Std W h A z F ∧ CauV W e h x y) (W : World) (hJ : J [] W) (hnW : n1 ≤ W.heap.size) :
    CallsIn .wide 1 Try.prog 54 #[.func (.yield l) #[] #[], .pointer (some ⟨e, 0, none⟩), .pointer (some ⟨e + 1, 0, none⟩), .pointer (some ⟨e + 1 + 1, 0, none⟩)] W fun r W' => (∃ v, r = .returned v) ∧ ∃ S, (tw S = (A.vs x y).reverse ∧ J S W') ∨ (tw S <+: (A.vs x y).reverse ∧ Jx S W') := by
  have mixed : Try.prog.follows Departure.mixedOrders = true := by kernel_rfl
  obtain ⟨L, hL⟩ : ∃ L, A.vs x y = L := ⟨_, rfl⟩
  obtain ⟨by', hby⟩ : ∃ b, W.heap.size = b := ⟨_, rfl⟩
  obtain ⟨V, hV⟩ : ∃ V, W.alloc (.cells #[.func (.yield l) #[] #[]] 115) = V := ⟨_, rfl⟩
  have ly := Lit.new W 115 [.func (.yield l) #[] #[]]
  have hb0 := Below.allocs W (.cells #[.func (.yield l) #[] #[]] 115)
  rw [show ([Value.func (.yield l) #[] #[]] : List Value).toArray = (#[.func (.yield l) #[] #[]] : Array Value) from rfl, hV, hby] at ly
  rw [hV] at hb0
  have hsV : V.heap.size = by' + 1 := by rw [← hV, ← hby]; simp
  have hJV := hP.old hJ (hb0.mono hnW)
  obtain ⟨k1, k2⟩ := hK _ _ (hP.know hJV)
  have hok := k1.ok
  have hsl := slots_std V h A z F x y hx hy hz k1
  rw [← Ab.vs_slots, hL] at hsl
  unfold ptrV at hsl
  have c0 := k2.ph.cell (o := 0) rfl
  have c1 := k2.px.cell (o := 0) rfl
  have c2 := k2.py.cell (o := 0) rfl
  have l0 := k2.ph.lt
  have l1 := k2.px.lt
  have l2 : e + 1 + 1 < V.heap.size := k2.py.lt
  have c2' : V.cell? ⟨e + 1 + 1, 0, none⟩ = some (.int .i64 y) := c2
  clear c2
  have HP := Lib.hid hP
  have HK := Lib.hid hK
  have HL := Lib.hid hL
  have HBY := Lib.hid hby
  have HV := Lib.hid hV
  have HLY := Lib.hid ly
  have HJV := Lib.hid hJV
  have HOK := Lib.hid hok
  have HSL := Lib.hid hsl
  have HSV := Lib.hid hsV
  have HNW : Hid (n1 ≤ by') := Lib.hid (by omega)
  have HXY := Lib.hid (And.intro hx (And.intro hy hz))
  rw [hL]
  clear hP hK hL hby hV ly hb0 hsV hJV hok hsl hJ hnW k1 k2 hx hy hz
  refine callsIn_of_wp_marks Try.func54 rfl trivial ?_ rfl
  simp only [Try.ntmps54, List.size_toArray, List.length_cons, List.length_nil, Nat.reduceAdd, Nat.reduceSub, Array.replicate_succ, Array.replicate_zero, List.push_toArray, List.append_toArray, List.nil_append, List.cons_append]
  refine wpIn_wide.2 ?_
  go_upto_region 1 with (fail)
  rw [HV.out, HBY.out]
  go_wp2_with fail
  refine HSL.out.mono ?_
  rintro r w1 ⟨s, rfl, hr, hso, hb1⟩
  obtain ⟨es, hes⟩ : ∃ b, w1.heap.size = b := ⟨_, rfl⟩
  have hbk := back_is w1 s (by obtain ⟨a, c, e1, -, -⟩ := hr.form; exact ⟨_, _, _, e1⟩)
  rw [hes] at hbk
  have HR := Lib.hid (And.intro hr hso)
  have HJ1 := Lib.hid (HP.out.old HJV.out (hb1.mono (by have := HNW.out; have := HSV.out; omega)))
  have HLY1 := Lib.hid (HLY.out.below hb1)
  have HES : Hid (by' < es) := Lib.hid (by have := hb1.size; have := HSV.out; omega)
  have HS1 : Hid (w1.heap.size = es) := Lib.hid hes
  have HBK := Lib.hid hbk
  clear hr hso hb1 hbk HSL HJV HLY c0 c1 c2' l0 l1 l2 hes
  go_wp2_with fail
  refine HBK.out.mono ?_
  rintro r w2 ⟨rfl, hsb, hb2⟩
  rw [← HS1.out] at hb2
  have HSB := Lib.hid hsb
  have HI : Hid (VerI L J by' es l s [] w2) := Lib.hid ⟨⟨[], HP.out.old HJ1.out (hb2.mono (by have := HNW.out; have := HES.out; have := HS1.out; omega)), rfl, Nat.zero_le _⟩, HLY1.out.below hb2, hsb, HR.out.1.below hb2⟩
  have HE : Hid (es < w2.heap.size ∧ n1 ≤ w2.heap.size ∧ by' < w2.heap.size ∧ (∀ k, s.ownBlock = some k → n1 ≤ k ∧ k < w2.heap.size) ∧ n1 ≤ es) := Lib.hid ⟨hsb.lt, by have := hsb.lt; have := HES.out; have := HNW.out; omega, by have := hsb.lt; have := HES.out; omega, fun k hk => ⟨by have := HR.out.2 k hk; have := HSV.out; have := HNW.out; omega, Nat.lt_of_lt_of_le (RowF.lt HR.out.1 k hk) hb2.size⟩, by have := HES.out; have := HNW.out; omega⟩
  clear hsb hb2 HBK HR HJ1 HLY1 HES HS1 HSB
  unfold backV
  go_wp2_with fail
  refine (wpIn_wide (n := 1)).1 ?_
  refine wpIn_rangeS (enc := encB) (fun q => ∃ k, k ≤ (natI (L.map Prod.fst)).length ∧ q = bk (natI (L.map Prod.fst)) k) (fun S => S = bk (natI (L.map Prod.fst)) (natI (L.map Prod.fst)).length) (fun S => ∃ k, k < (natI (L.map Prod.fst)).length ∧ S = bk (natI (L.map Prod.fst)) (k + 1)) (VerI L J by' es l s) (VerI L Jx by' es l s) (fun _ W => Lit W es 35 [s] ∧ RowI W s (natI (L.map Prod.fst))) (VerI.old HP.out.old HE.out.2.1 HE.out.2.2.1 HE.out.1 (fun k hk => (HE.out.2.2.2.1 k hk).2)) (VerI.old HP.out.oldx HE.out.2.1 HE.out.2.2.1 HE.out.1 (fun k hk => (HE.out.2.2.2.1 k hk).2)) (fun _ _ h => ⟨h.sb, h.row⟩) HI.out rfl back_enters (fun _ => rfl) (fun _ W => W) (fun _ _ => Below.refl _ _) .ret .ret (.inl ⟨rfl, rfl⟩) ?round ?call ?done ?stop
  case round =>
    intro l2 xx q W3 hl2 hs3 hI hOk
    obtain ⟨k, hk, hqk⟩ := hOk
    obtain ⟨slot, t, h1, h2, h3, h4, h5, h6⟩ := ver_turn HOK.out HL.out hk hqk
    simp only [encB, h1]
    gi_wp2
    refine ⟨rfl, fun W4 hI4 hk4 hs4 => ?_⟩
    obtain ⟨p, g1, g2, g3⟩ := hI4.ex
    obtain ⟨k1, k2⟩ := HK.out _ _ (HP.out.know g1)
    have hat := at_std W4 h A z F (slot : Int) HXY.out.2.2 k1
    rw [h2, h3] at hat
    unfold ptrV tupV at hat
    have c0 := k2.ph.cell (o := 0) rfl
    have l0 := k2.ph.lt
    have HAT := Lib.hid hat
    have HI4 := Lib.hid hI4
    have HJ4 := Lib.hid g1
    have HQ := Lib.hid (And.intro h4 (And.intro h5 g2))
    have HS4 : Hid (w2.heap.size ≤ W4.heap.size) := Lib.hid (by have : W4.heap.size = W3.heap.size := hs4; omega)
    have HT := Lib.hid h6
    clear hl2 hs3 hI hk hqk h1 h2 h3 h4 h5 h6 hI4 hk4 hs4 g1 g2 g3 k1 k2 hat
    gi_wp2_with fail
    refine ⟨trivial, rfl, CallsIn.mono (RX.callsIn_at (r := some l2) HAT.out) ?_⟩
    rintro r w5 ⟨s5, rfl, hr5, hso5, hb5⟩
    obtain ⟨sa, sc, hsf, -, -⟩ := hr5.form
    subst hsf
    obtain ⟨rn, hrn⟩ : ∃ rn, t.row.length = rn := ⟨_, rfl⟩
    rw [hrn]
    obtain ⟨W6, hW6⟩ : ∃ W6, w5.alloc (.cells #[.int .i64 t.no, .int .i64 t.id, .int .i64 t.mn, .int .i64 t.cm, .int .i64 t.mx, .int .i64 t.cx, .slice sa rn sc] 61) = W6 := ⟨_, rfl⟩
    obtain ⟨g6, hg6⟩ : ∃ g, w5.heap.size = g := ⟨_, rfl⟩
    have lt6 := Lit.new w5 61 [.int .i64 t.no, .int .i64 t.id, .int .i64 t.mn, .int .i64 t.cm, .int .i64 t.mx, .int .i64 t.cx, .slice sa rn sc]
    have bb6 := Below.allocs w5 (.cells #[.int .i64 t.no, .int .i64 t.id, .int .i64 t.mn, .int .i64 t.cm, .int .i64 t.mx, .int .i64 t.cx, .slice sa rn sc] 61)
    rw [show ([.int .i64 t.no, .int .i64 t.id, .int .i64 t.mn, .int .i64 t.cm, .int .i64 t.mx, .int .i64 t.cx, .slice sa rn sc] : List Value).toArray = (#[.int .i64 t.no, .int .i64 t.id, .int .i64 t.mn, .int .i64 t.cm, .int .i64 t.mx, .int .i64 t.cx, .slice sa rn sc] : Array Value) from rfl, hW6, hg6] at lt6
    rw [hW6] at bb6
    obtain ⟨d0, d1, d2, d3, d4, d5, d6, d7⟩ : W6.cell? ⟨g6, 0, none⟩ = some (.int .i64 t.no) ∧ W6.cell? ⟨g6, 1, none⟩ = some (.int .i64 t.id) ∧ W6.cell? ⟨g6, 2, none⟩ = some (.int .i64 t.mn) ∧ W6.cell? ⟨g6, 3, none⟩ = some (.int .i64 t.cm) ∧ W6.cell? ⟨g6, 4, none⟩ = some (.int .i64 t.mx) ∧ W6.cell? ⟨g6, 5, none⟩ = some (.int .i64 t.cx) ∧ W6.cell? ⟨g6, 6, none⟩ = some (.slice sa rn sc) ∧ g6 < W6.heap.size :=
      ⟨lt6.cell rfl, lt6.cell rfl, lt6.cell rfl, lt6.cell rfl, lt6.cell rfl, lt6.cell rfl, lt6.cell rfl, lt6.lt⟩
    have b46 := below_tr hb5 bb6
    have hyb := (HI4.out.yb.below b46)
    have y0 := hyb.cell (o := 0) rfl
    have yl := hyb.lt
    have hn6 : n1 ≤ W6.heap.size := by have := HE.out.2.1; have := HS4.out; have := b46.size; omega
    have hJ6 := HP.out.old HJ4.out (b46.mono (by have := HE.out.2.1; have := HS4.out; omega))
    have htw : tw (p ++ [(slot, t, sa, rn, sc)]) = L.reverse.take (q.length + 1) := by rw [tw_app, HQ.out.2.2, HQ.out.2.1]
    obtain ⟨fn, tmps, assign, body, hy, hR⟩ := HP.out.turn p (slot, t, sa, rn, sc) W6 hn6 hJ6 (by show tw _ <+: _; rw [htw, HL.out]; exact List.take_prefix _ _)
    simp only [encT, tupV] at hy
    have HR := Lib.hid hR
    have HB := Lib.hid b46
    have HTW := Lib.hid htw
    have HN6 := Lib.hid hn6
    clear hR b46 htw hn6 hyb hJ6 lt6 bb6 hb5 hr5 hso5 hrn c0 l0 HAT
    gi_wp2_with fail
    refine ⟨rfl, RoundIn.mono (round_at (r := none) (r' := some l2) HR.out) ?_⟩
    have hout : ∀ (J' : List VerE → World → Prop) w7, Touch (fun k => k < n1) W6 w7 → J' (p ++ [(slot, t, sa, rn, sc)]) w7 → Touch (fun k => k < w2.heap.size) W4 w7 ∧ VerI L J' by' es l s (q ++ [xx]) w7 := fun J' w7 ht hj => by
      refine ⟨(Touch.of_below HB.out).trans ht (fun k _ hk => by have h1 : k < n1 := hk; have := HE.out.2.1; show k < w2.heap.size; omega), ?_⟩
      have hq1 : (q ++ [xx]).length = q.length + 1 := by simp
      refine (HI4.out.below (J' := fun _ _ => True) (q' := q) HB.out ⟨p, trivial, HQ.out.2.2, by have := HQ.out.1; omega⟩).touch (q' := q ++ [xx]) ht HNW.out HE.out.2.2.2.2 (fun k hk => (HE.out.2.2.2.1 k hk).1) ⟨_, hj, by rw [hq1]; exact HTW.out, by rw [hq1]; exact HQ.out.1⟩
    have HOUT := Lib.hid hout
    clear hout
    rintro r w7 ⟨ht, ⟨rfl, hj⟩ | ⟨rfl, hj⟩⟩
    · have HF := Lib.hid (HOUT.out _ w7 ht hj)
      clear ht hj hy d0 d1 d2 d3 d4 d5 d6 d7 y0 yl hW6 hg6
      gi_wp2_with fail
      exact HF.out
    · have HF := Lib.hid (HOUT.out _ w7 ht hj)
      clear ht hj hy d0 d1 d2 d3 d4 d5 d6 d7 y0 yl hW6 hg6
      gi_wp2_with fail
      exact HF.out
  case call =>
    intro l2 J2 Jx2 W3 hP2 hJ2 hsz2 hb2
    exact backit_is l2 _ es s _ J2 Jx2 _ hP2 (fun _ _ h => h) W3 hJ2 (by omega)
  case done =>
    intro D S W3 hI hS hD hDb
    obtain ⟨p, g1, g2, g3⟩ := hI.ex
    have hSl : S.length = L.length := by rw [hS, bk_len, natI_len, List.length_map]
    have HE2 : Hid (∀ W', Touch (fun k => k = D) W3 W' → tw p = L.reverse ∧ J p W') := Lib.hid (fun W' ht => ⟨by rw [g2, hSl, List.take_of_length_le (by rw [List.length_reverse]; exact Nat.le_refl _)], HP.out.old g1 (touch_below ht (by have := HE.out.2.1; omega) (by have := HE.out.2.1; have := (Array.getElem?_eq_some_iff.1 hDb).1; omega))⟩)
    have HDB := Lib.hid hDb
    clear hI hS hD hDb g1 g2 g3 hSl
    try gi_wp2_with fail
    go_wp2_with fail
    refine leaves_one HDB.out fun W' ht => ⟨.tuple #[], by simp [results, Try.results54, go_sem], ⟨_, rfl⟩, p, .inl (HE2.out W' ht)⟩
  case stop =>
    intro D S W3 hI hS hD hDb
    obtain ⟨p, g1, g2, g3⟩ := hI.ex
    have HE2 : Hid (∀ W', Touch (fun k => k = D) W3 W' → tw p <+: L.reverse ∧ Jx p W') := Lib.hid (fun W' ht => ⟨by rw [g2]; exact List.take_prefix _ _, HP.out.oldx g1 (touch_below ht (by have := HE.out.2.1; omega) (by have := HE.out.2.1; have := (Array.getElem?_eq_some_iff.1 hDb).1; omega))⟩)
    have HDB := Lib.hid hDb
    clear hI hS hD hDb g1 g2 g3
    try gi_wp2_with fail
    go_wp2_with fail
    refine leaves_one HDB.out fun W' ht => ⟨.tuple #[], by simp [results, Try.results54, go_sem], ⟨_, rfl⟩, p, .inr (HE2.out W' ht)⟩
end

end Go.Proofs.Ytbgnbaogclnpgaa
