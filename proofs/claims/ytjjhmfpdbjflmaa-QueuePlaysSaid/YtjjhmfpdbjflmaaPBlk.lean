/-
  Who is in the way of a request: the iterator that queue.blockers hands out, walked (stage 14).
-/
import Derived.Test.YtjjhmfpdbjflmaaPRow
import Derived.Test.YtjjhmfpdbjflmaaRegT
import Derived.Test.YtjjhmfpdbjflmaaPRng
import Derived.Sort.MapsRangeIn
import Derived.Sort.LoopGhostIn
import Derived.Shelf.Abstract
import Derived.TacticsInMore
import Derived.LoopNIn
import Derived.LoopIn
import Derived.Deep.DeepCutAuto
import Derived.Laws.EntriesVeiled
namespace Go.Proofs.Ytjjhmfpdbjflmaa
open Go.RowKit
set_option linter.unusedVariables false

/-! ### A range over a map, fenced -/
section
variable {F : Fence} {fn : Nat} {w : World} {ops : Array Oper} {rest : List Oper} {o : Oper} {a : Act} {Q : Exit → Act → World → Prop} {b r n cnt : Nat} {f : Int → Option Value} {left : Int → Bool}

theorem rangeIn_f (hg : o.guard = none) (m : Operand) (t : TypeId) (hop : o.op = Op.range t m) (e : TypeId) (ht : Try.prog.underlying t = some (.map 3 e)) (hm : a.eval m = .map (some b)) (h : MapF w b n f)
    (hK : ∀ w' cnt, cnt ≤ n → RangeF w' b w.heap.size n f (fun x => decide (I64 x) && (f x).isSome) cnt → Below w.heap.size w w' → w'.heap.size = w.heap.size + 1 → wpListIn F fn Try.prog ops Q rest (a.put o.dst (.pointer (some ⟨w.heap.size, 0, none⟩))) w') :
    wpListIn F fn Try.prog ops Q (o :: rest) a w := by
  obtain ⟨D, h1, h2⟩ := h
  refine wpListIn_range_own w hg m t hop 3 e lawI ht KR b n D hm h1 fun w' r1 r2 r3 => ?_
  refine hK w' _ h1.size_le ⟨D, _, r1, h2, fun x => ?_⟩ ⟨r2.os, r2.tape, r2.output, r2.size, fun k hk => r2.block k hk (by simp)⟩ r3
  by_cases hx : I64 x
  · show (decide (I64 x) && (f x).isSome) = _
    rw [(h2 x hx).1, decide_eq_true hx, Bool.true_and]
  · show (decide (I64 x) && (f x).isSome) = _
    rw [decide_eq_false hx, Bool.false_and]
    symm
    obtain ⟨es, rfl, hp, hk⟩ := own_keys h1
    rw [Maps.has_eq, List.any_eq_false]
    intro p hpm hs
    obtain ⟨y, e1, e2⟩ := hk p hpm
    have := WideAt.sameKey_eq hs
    rw [e1] at this
    injection this with _ this
    subst this
    exact hx e2

theorem nextIn_f (hg : o.guard = none) (it : Operand) (hop : o.op = Op.next it false) (hit : a.eval it = .pointer (some ⟨r, 0, none⟩)) (h : RangeF w b r n f left cnt)
    (hDone : (∀ x, I64 x → left x = false) → wpListIn F fn Try.prog ops Q rest (a.put o.dst (.tuple #[.bool false])) w)
    (hMore : ∀ (x : Int) (v : Value) (w' : World) (cnt' : Nat), I64 x → left x = true → f x = some v → RangeF w' b r n f (fun z => left z && !decide (z = x)) cnt' → cnt' < cnt → Touch (fun k => k = r) w w' → w'.heap.size = w.heap.size →
      (Instr.entry (.pointer (some ⟨r, 0, none⟩))).run Try.prog w' = .ok (.tuple #[.int .i64 x, v]) w' → wpListIn F fn Try.prog ops Q rest (a.put o.dst (.tuple #[.bool true, .int .i64 x, v])) w') :
    wpListIn F fn Try.prog ops Q (o :: rest) a w := by
  obtain ⟨D, l, h1, h2, h3⟩ := h
  refine wpListIn_next_ranges w hg it hop 3 lawI KR (Value.int .i64) (fun v : Value => v) (fun key kl hkey => by obtain ⟨x, rfl, _⟩ := Maps.keyOf_int_inv Try.underlying3 hkey; exact ⟨x, rfl⟩) (fun v y hv => ⟨v, rfl⟩)
    b r n D l cnt hit h1 (fun _ hl => hDone (fun x _ => by rw [h3]; exact hl _)) (fun x c kl y w' cnt' hkey hlk hv hat hrg hlt hgr hsz hen => ?_)
  obtain ⟨x', ex, rfl, hwx⟩ := Maps.keyOf_int_inv Try.underlying3 hkey
  injection ex with _ ex
  subst ex
  have hx := wfI' hwx
  have hf : f x = some c := by
    obtain ⟨h4, h5⟩ := h2 x hx
    cases hfx : f x with
    | none =>
      rw [hfx] at h4
      have e1 := Maps.atKey_of_not_has (z := DataW.nil) (by rw [h4]; rfl)
      rw [hat] at e1
      unfold KR at hv
      simp only [Option.some.injEq] at hv
      rw [← hv] at e1
      cases e1
    | some u =>
      have e1 := h5 u DataW.nil hfx
      rw [hat] at e1
      unfold KR at hv
      simp only [Option.some.injEq] at hv
      rw [← hv] at e1
      rw [DataW.held.inj e1]
  refine hMore x c w' cnt' hx (by rw [h3]; exact hlk) hf ⟨D, _, hrg, h2, fun z => ?_⟩ hlt (Touch.grown hgr (fun k hk => (Option.some.inj hk).symm)) hsz hen
  show (left z && !decide (z = x)) = (l (.int .i64 z) && !(Go.Lit.int .i64 z).sameKey (.int .i64 x))
  have e : decide (z = x) = (Go.Lit.int .i64 z).sameKey (.int .i64 x) := by
    by_cases hzx : z = x
    · subst hzx
      rw [decide_eq_true rfl]
      exact (WideAt.sameKey_self (lawI.key (keyI hx))).symm
    · rw [decide_eq_false hzx]
      exact (Maps.sameKey_ne (litI_ne hzx)).symm
  rw [e, h3 z]
end

theorem RangeF.iter {W : World} {b r n cnt : Nat} {f : Int → Option Value} {left : Int → Bool} (h : RangeF W b r n f left cnt) : ∃ o : Obj, W.heap[r]? = some o ∧ o.isWalk = true := by
  obtain ⟨D, l, h1, _⟩ := h
  exact h1.iter_walk

/-! ### What the iterator leans on -/

/-- What a closure of blockers has caught, and the lock: the map's object is ob. -/
structure Cau (h b : Nat) (s : Value) (n : Nat) (A : Lk) (e : Nat) (x m : Int) (sb : Value) (bef : PL) (ob : Option Obj) (W : World) : Prop where
  lk : LkM W h b s n A
  pl : Lit W e 24 [.pointer (some ⟨h, 0, none⟩)]
  pr : Lit W (e + 1) 65 [.int .i64 x, .int .u8 m]
  pb : Lit W (e + 1 + 1) 56 [sb]
  rb : RowQ W sb bef
  ob : W.heap[b]? = ob
section
variable {h b n e : Nat} {s sb : Value} {A : Lk} {x m : Int} {bef : PL} {ob : Option Obj} {W W' : World}
theorem Cau.below (H : Cau h b s n A e x m sb bef ob W) (hb : Below W.heap.size W W') : Cau h b s n A e x m sb bef ob W' :=
  ⟨H.lk.below hb, H.pl.below hb, H.pr.below hb, H.pb.below hb, H.rb.below hb, (hb.block b H.lk.map.lt).trans H.ob⟩
theorem Cau.stay {G : Nat → Prop} (H : Cau h b s n A e x m sb bef ob W) (hs : Stay G W W') (hG : ∀ k, k < W.heap.size → (LkF h b s k ∨ k = e ∨ k = e + 1 ∨ k = e + 1 + 1 ∨ sb.ownBlock = some k) → G k) : Cau h b s n A e x m sb bef ob W' :=
  ⟨H.lk.stay (hs := Stay.mono (G := fun k => k < W.heap.size ∧ G k) ⟨hs.size, fun k hk hg => hs.block k hk hg.2⟩ (fun k hk => ⟨H.lk.lt k hk, hG k (H.lk.lt k hk) (.inl hk)⟩)),
   H.pl.stay hs (hG _ H.pl.lt (.inr (.inl rfl))), H.pr.stay hs (hG _ H.pr.lt (.inr (.inr (.inl rfl)))), H.pb.stay hs (hG _ H.pb.lt (.inr (.inr (.inr (.inl rfl))))), H.rb.stay hs (fun k hk => hG k (H.rb.lt k hk) (.inr (.inr (.inr (.inr hk))))), (hs.block b H.lk.map.lt (hG b H.lk.map.lt (.inl (.inr (.inl rfl))))).trans H.ob⟩
end

def blkV (e : Nat) : Value := .func (.func 66) #[] #[.pointer (some ⟨e, 0, none⟩), .pointer (some ⟨e + 1, 0, none⟩), .pointer (some ⟨e + 1 + 1, 0, none⟩)]
theorem blk_enters : ∀ args w, (callFunc 66 args).run Try.prog w = .ok (.enter 66 args) w := enters_of Try.func66 (by kernel_rfl) rfl

set_option maxRecDepth 100000 in
set_option maxHeartbeats 8000000 in
theorem blockers_is (w : World) (h b : Nat) (s : Value) (n : Nat) (A : Lk) (x m : Int) (sb : Value) (bef : PL) (H : LkM w h b s n A) (hr : RowQ w sb bef) :
    Calls Try.prog 51 #[.pointer (some ⟨h, 0, none⟩), .agg #[.int .i64 x, .int .u8 m], sb] w fun r w' => r = .returned (blkV w.heap.size) ∧ Cau h b s n A w.heap.size x m sb bef w.heap[b]? w' ∧ Below w.heap.size w w' := by
  obtain ⟨ba, bc, rfl, -, -⟩ := hr.form
  have l0 := Lit.new w 24 [.pointer (some ⟨h, 0, none⟩)]
  have b0 := Below.allocs w (.cells #[.pointer (some ⟨h, 0, none⟩)] 24)
  have l1 := Lit.new (w.alloc (.cells #[.pointer (some ⟨h, 0, none⟩)] 24)) 65 [.int .i64 x, .int .u8 m]
  have b1 := Below.allocs (w.alloc (.cells #[.pointer (some ⟨h, 0, none⟩)] 24)) (.cells #[.int .i64 x, .int .u8 m] 65)
  have l2 := Lit.new ((w.alloc (.cells #[.pointer (some ⟨h, 0, none⟩)] 24)).alloc (.cells #[.int .i64 x, .int .u8 m] 65)) 56 [.slice ba bef.length bc]
  have b2 := Below.allocs ((w.alloc (.cells #[.pointer (some ⟨h, 0, none⟩)] 24)).alloc (.cells #[.int .i64 x, .int .u8 m] 65)) (.cells #[.slice ba bef.length bc] 56)
  have e1 : (w.alloc (.cells #[.pointer (some ⟨h, 0, none⟩)] 24)).heap.size = w.heap.size + 1 := by simp
  have e2 : ((w.alloc (.cells #[.pointer (some ⟨h, 0, none⟩)] 24)).alloc (.cells #[.int .i64 x, .int .u8 m] 65)).heap.size = w.heap.size + 1 + 1 := by simp
  rw [e1] at l1
  rw [e2] at l2
  have HB := Lib.hid (below_tr (below_tr b0 b1) b2)
  have HC : Hid (Cau h b s n A w.heap.size x m (.slice ba bef.length bc) bef w.heap[b]? _) := Lib.hid ⟨H.below HB.out, (l0.below b1).below b2, l1.below b2, l2, hr.below HB.out, HB.out.block b H.map.lt⟩
  unfold blkV
  clear l0 b0 l1 b1 l2 b2 e1 e2 hr H
  go_enter Try.func51, Try.ntmps51
  go_wp2_with fail
  go_ret
  exact ⟨rfl, HC.out, HB.out⟩

def encI (x : Int) : Array Value := #[.int .i64 x]

/-- Beginnings that may come. -/
def OkB (n : Nat) (A : Lk) (x m : Int) (bef : PL) (p : List Int) : Prop := p.length ≤ n + bef.length ∧ ∀ y ∈ p, y ∈ allB A.c A.hd bef x m
def FinB (A : Lk) (x m : Int) (bef : PL) (p : List Int) : Prop := ∀ y, y ∈ p ↔ y ∈ allB A.c A.hd bef x m
def FinXB (A : Lk) (x m : Int) (bef : PL) (p : List Int) : Prop := p ≠ [] ∧ ∀ y ∈ p, y ∈ allB A.c A.hd bef x m

theorem mapV_some {hd : PL} {y : Int} {v : Value} (h : mapV hd y = some v) : v = .int .u16 (heldL hd y) ∧ heldL hd y ≠ 0 := by
  unfold mapV at h
  split at h
  · cases h
  · rename_i h0; exact ⟨(Option.some.inj h).symm, h0⟩
/-- What has come of the holders: all that are not left. -/
structure Half (A : Lk) (x m : Int) (left : Int → Bool) (p : List Int) : Prop where
  sub : ∀ y ∈ p, y ∈ blkH A.c A.hd x m
  all : ∀ y ∈ blkH A.c A.hd x m, left y = true ∨ y ∈ p
theorem blkH_held {A : Lk} (hok : Ok0 A) {x m y : Int} : y ∈ blkH A.c A.hd x m ↔ y ≠ x ∧ heldL A.hd y ≠ 0 ∧ goB A.c (heldL A.hd y) m = false := by
  rw [mem_blkH]
  constructor
  · rintro ⟨p, hp, rfl, hne, hg⟩
    rw [held_of hok.rise hp]
    exact ⟨hne, (hok.held p hp).2.2.2.1, hg⟩
  · rintro ⟨hne, h0, hg⟩
    exact ⟨_, held_mem h0, rfl, hne, hg⟩
theorem Half.skip {A : Lk} {x m : Int} {left : Int → Bool} {p : List Int} (H : Half A x m left p) {y : Int} (hy : y ∉ blkH A.c A.hd x m) : Half A x m (fun z => left z && !decide (z = y)) p :=
  ⟨H.sub, fun z hz => (H.all z hz).imp (fun h => by
    have : z ≠ y := fun e => hy (e ▸ hz)
    simp [h, this]) id⟩
theorem Half.take {A : Lk} {x m : Int} {left : Int → Bool} {p : List Int} (H : Half A x m left p) {y : Int} (hy : y ∈ blkH A.c A.hd x m) : Half A x m (fun z => left z && !decide (z = y)) (p ++ [y]) :=
  ⟨fun z hz => by
    rcases List.mem_append.1 hz with hz | hz
    · exact H.sub z hz
    · rw [List.mem_singleton] at hz; rw [hz]; exact hy, fun z hz => by
    by_cases e : z = y
    · right; simp [e]
    · rcases H.all z hz with h | h
      · left; simp [h, e]
      · right; simp [h]⟩
theorem blkW_take {c x m : Int} {bef : PL} {i : Nat} {py pm : Int} (h : bef[i]? = some (py, pm)) (hne : py ≠ x) : blkW c (bef.take (i + 1)) x m = blkW c (bef.take i) x m ++ (if goB c (withN 0 pm) m = true then [] else [py]) := by
  unfold blkW fsts
  rw [List.take_add_one, h, List.filter_append, List.map_append]
  congr 1
  cases hg : goB c (withN 0 pm) m with
  | true => simp [hg]
  | false => simp [hg, hne]
theorem blkW_sub {c x m : Int} {bef : PL} {i : Nat} {z : Int} (h : z ∈ blkW c (bef.take i) x m) : z ∈ blkW c bef x m := by
  obtain ⟨p, hp, h1⟩ := mem_blkW.1 h
  exact mem_blkW.2 ⟨p, List.mem_of_mem_take hp, h1⟩
theorem blkW_len (c : Int) (bef : PL) (x m : Int) : (blkW c bef x m).length ≤ bef.length := by
  unfold blkW fsts
  rw [List.length_map]
  exact List.length_filter_le _ _
theorem sub_all {A : Lk} {x m : Int} {bef : PL} {y : Int} (h : y ∈ blkH A.c A.hd x m) : y ∈ allB A.c A.hd bef x m := List.mem_append.2 (.inl h)

section
attribute [local go_sem] Oper.semAt_some

set_option maxRecDepth 100000 in
set_option maxHeartbeats 8000000 in
theorem blkit_is (l n1 h b n e : Nat) (s : Value) (A : Lk) (x m : Int) (sb : Value) (bef : PL) (ob : Option Obj) (hok : Ok0 A) (hm8 : U8 m) (hx : I64 x) (hbw : ∀ p ∈ bef, U8 p.2 ∧ p.1 ≠ x) (hnn : n + bef.length ≤ 100000) (J Jx K : List Int → World → Prop) (hP : PartyW Try.prog encI (OkB n A x m bef) l n1 J Jx K) (hK : ∀ p W, K p W → Cau h b s n A e x m sb bef ob W) (W : World) (hJ : J [] W) (hnW : n1 ≤ W.heap.size) :
    CallsIn .wide 1 Try.prog 66 #[.func (.yield l) #[] #[], .pointer (some ⟨e, 0, none⟩), .pointer (some ⟨e + 1, 0, none⟩), .pointer (some ⟨e + 1 + 1, 0, none⟩)] W fun r W' => (∃ v, r = .returned v) ∧ ∃ S, (FinB A x m bef S ∧ J S W') ∨ (FinXB A x m bef S ∧ Jx S W') := by
  have mixed : Try.prog.follows Departure.mixedOrders = true := by kernel_rfl
  have k2 := hK _ _ (hP.know hJ)
  have c0 := k2.pl.cell (o := 0) rfl
  have cl := k2.pl.lt
  obtain ⟨d0, d1, d2, dl⟩ := k2.lk.cells
  have HMAP := Lib.hid k2.lk.map
  have HP := Lib.hid hP
  have HK := Lib.hid hK
  have HOK := Lib.hid hok
  have HM8 := Lib.hid hm8
  have HXI := Lib.hid hx
  have HBW := Lib.hid hbw
  have HNN := Lib.hid hnn
  have HJ0 := Lib.hid hJ
  have HNW := Lib.hid hnW
  obtain ⟨r0, hr0⟩ : ∃ r, W.heap.size = r := ⟨_, rfl⟩
  have HR0 := Lib.hid hr0
  clear hP hK hJ hnW k2 hok hm8 hx hbw hnn hr0
  refine callsIn_of_wp Try.func66 rfl trivial ?_ rfl
  simp only [Try.ntmps66, List.size_toArray, List.length_cons, List.length_nil, Nat.reduceAdd, Nat.reduceSub, Array.replicate_succ, Array.replicate_zero, List.push_toArray, List.append_toArray, List.nil_append, List.cons_append]
  gi_wp2_with (first | (gi_at_range; refine rangeIn_f rfl _ _ rfl 45 Try.underlying55 rfl HMAP.out (fun w0 cnt0 hcn hrg hb0 hsz0 => ?_)) | gi_in)
  go_frame
  rw [HR0.out] at hrg
  have HRG := Lib.hid hrg
  have HJ1 := Lib.hid (HP.out.old HJ0.out HNW.out hb0)
  have HN1 : Hid (n1 ≤ r0 ∧ r0 < w0.heap.size) := Lib.hid ⟨by rw [← HR0.out]; exact HNW.out, by rw [← HR0.out]; omega⟩
  have HCN : Hid (0 + cnt0 ≤ n) := Lib.hid (by omega)
  have HHF : Hid (Half A x m (fun z => decide (I64 z) && (mapV A.hd z).isSome) []) := Lib.hid ⟨fun y hy => (by cases hy), fun y hy => .inl (by
    obtain ⟨q1, q2, q3⟩ := (blkH_held HOK.out).1 hy
    have hi := (HOK.out.held _ (held_mem q2)).2.1
    unfold mapV
    rw [if_neg q2]
    simpa using hi)⟩
  rw [HR0.out]
  clear hcn hrg hb0 hsz0 c0 cl d0 d1 d2 dl HMAP HJ0
  gi_loopg [5, 6] cnt0 (fun gg s5 s6 wr => ∃ (left : Int → Bool) (cnt : Nat) (p : List Int), cnt ≤ gg ∧ Hid (RangeF wr b r0 n (mapV A.hd) left cnt) ∧ Hid (J p wr) ∧ Hid (Half A x m left p) ∧ Hid (p.length + cnt ≤ n) ∧ Hid (r0 < wr.heap.size))
  case atStart => exact ⟨_, cnt0, [], Nat.le_refl _, HRG, HJ1, HHF, HCN, Lib.hid HN1.out.2⟩
  case round =>
    obtain ⟨left, cnt, p, hgg, HRG1, HJ2, HH2, HLEN, HRS⟩ := hrel
    clear HRG HJ1 HHF HCN
    have HGG := Lib.hid hgg
    clear hgg
    gi_wp2_with (first | (gi_at_next; refine nextIn_f rfl _ rfl rfl HRG1.out (fun hl0 => ?_) (fun y v w2 cnt2 hy hly hf hrg2 hlt2 ht2 hs2 hen => ?_)) | gi_in)
    · -- nothing is left
      have hfin : ∀ y, y ∈ p ↔ y ∈ blkH A.c A.hd x m := fun y => ⟨HH2.out.sub y, fun hy => by
        rcases HH2.out.all y hy with h1 | h1
        · have hi := (HOK.out.held _ (held_mem ((blkH_held HOK.out).1 hy).2.1)).2.1
          rw [hl0 y hi] at h1; cases h1
        · exact h1⟩
      have HFIN := Lib.hid hfin
      have HC2 := Lib.hid (HK.out _ _ (HP.out.know HJ2.out))
      have HPL : Hid (p.length ≤ n) := Lib.hid (by have := HLEN.out; omega)
      have HN2 : Hid (n1 ≤ wr.heap.size) := Lib.hid (by have := HN1.out.1; have := HRS.out; omega)
      obtain ⟨hx, hhx⟩ : ∃ hx, heldL A.hd x = hx := ⟨_, rfl⟩
      have HHX := Lib.hid hhx
      have hdr := below_drw wr
      clear hl0 hfin hhx HRG1 HH2 HLEN HRS HGG HN1 hdr
      gi_wp2_with fail
      by_cases h0 : hx = 0
      · have hzx : (hx != 0) = false := by simp [h0]
        have hzx2 : (hx == 0) = true := by simp [h0]
        obtain ⟨zx, hz⟩ : ∃ zx, (hx != 0) = zx := ⟨_, rfl⟩
        have hz3 : zx = false := by rw [← hz]; exact hzx
        refine wpIn_wide.2 ?_
        have hdr := below_drw wr
        try simp only [List.append_eq, List.cons_append, List.nil_append]
        refine RX.wp_region_plan (fun w w' => Below w.heap.size w w') [.it (.pointer (some ⟨h, 0, none⟩)), .it (.pointer (some ⟨h, 0, none⟩)), .it (.pointer (some ⟨h, 1, none⟩)), .it (.map (some b)), .it (.pointer (some ⟨e + 1, 0, none⟩)), .it (.int .i64 x), .it (.int .u16 hx), .it (.bool zx)] (by kernel_rfl) (by kernel_rfl) (fun _ => Below.refl _ _) (fun _ _ _ => below_tr) ?_
        refine RX.seqP_value (fun _ => Below.refl _ _) _ (by first | rfl | simp) (fun w' hw' hctx => ?_) ?_
        · have q := (HC2.out.below (below_tr hdr hw')).pl
          have d0 := q.cell (o := 0) rfl
          have dl := q.lt
          go_simp
          try first | with_reducible rfl | simp
        simp only [Act.put, List.setIfInBounds_toArray, List.set_cons_zero, List.set_cons_succ]
        refine RX.seqP_value (fun _ => Below.refl _ _) _ (by first | rfl | simp) (fun w' hw' hctx => by (go_simp); (try first | with_reducible rfl | simp)) ?_
        simp only [Act.put, List.setIfInBounds_toArray, List.set_cons_zero, List.set_cons_succ]
        refine RX.seqP_value (fun _ => Below.refl _ _) _ (by first | rfl | simp) (fun w' hw' hctx => by (go_simp); (try first | with_reducible rfl | simp)) ?_
        simp only [Act.put, List.setIfInBounds_toArray, List.set_cons_zero, List.set_cons_succ]
        refine RX.seqP_value (fun _ => Below.refl _ _) _ (by first | rfl | simp) (fun w' hw' hctx => ?_) ?_
        · have q := (HC2.out.below (below_tr hdr hw')).lk
          obtain ⟨d0, d1, d2, dl⟩ := q.cells
          go_simp
          try first | with_reducible rfl | simp
        simp only [Act.put, List.setIfInBounds_toArray, List.set_cons_zero, List.set_cons_succ]
        refine RX.seqP_value (fun _ => Below.refl _ _) _ (by first | rfl | simp) (fun w' hw' hctx => by (go_simp); (try first | with_reducible rfl | simp)) ?_
        simp only [Act.put, List.setIfInBounds_toArray, List.set_cons_zero, List.set_cons_succ]
        refine RX.seqP_value (fun _ => Below.refl _ _) _ (by first | rfl | simp) (fun w' hw' hctx => ?_) ?_
        · have q := (HC2.out.below (below_tr hdr hw')).pr
          have d0 := q.cell (o := 0) rfl
          have dl := q.lt
          go_simp
          try first | with_reducible rfl | simp
        simp only [Act.put, List.setIfInBounds_toArray, List.set_cons_zero, List.set_cons_succ]
        refine RX.seqP_value (fun _ => Below.refl _ _) _ (by first | rfl | simp) (fun w' hw' hctx => ?_) ?_
        · have q := ((HC2.out.below (below_tr hdr hw')).lk).look HXI.out
          rw [HHX.out] at q
          go_simp
          try first | with_reducible rfl | simp
        simp only [Act.put, List.setIfInBounds_toArray, List.set_cons_zero, List.set_cons_succ]
        refine RX.seqP_value (fun _ => Below.refl _ _) _ (by first | rfl | simp) (fun w' hw' hctx => by (go_simp); (try first | with_reducible rfl | simp)) ?_
        simp only [Act.put, List.setIfInBounds_toArray, List.set_cons_zero, List.set_cons_succ]
        refine RX.seqP_nil (fun w3 hR hctx _ => ?_)
        have hb3 := below_tr hdr hR
        clear hctx hR
        have HJ3 := Lib.hid (HP.out.old HJ2.out HN2.out hb3)
        have HC3 := Lib.hid (HC2.out.below hb3)
        have HN3 := Lib.hid (Nat.le_trans HN2.out hb3.size)
        have HH0 : Hid (heldL A.hd x = 0) := Lib.hid (by rw [HHX.out]; exact h0)
        subst hz3
        clear hb3 hdr hz hzx hzx2 HJ2 HC2 HN2
        have hcb := HC3.out.pb.cell (o := 0) rfl
        have hcl := HC3.out.pb.lt
        have hcb' : w3.cell? ⟨e + 1 + 1, 0, none⟩ = some sb := hcb
        have hcl' : e + 1 + 1 < w3.heap.size := hcl
        obtain ⟨sa, sc, hsf, hsn, hsm⟩ := HC3.out.rb.form
        obtain ⟨n2, hn2⟩ : ∃ n2, bef.length = n2 := ⟨_, rfl⟩
        rw [hn2] at hsf hsn
        rw [hsf] at hcb'
        have HSF := Lib.hid hsf
        have HLN := Lib.hid hn2
        have hn2b : n2 ≤ 9223372036854775807 := by unfold maxLen at hsm; omega
        clear hsf hcb hcl hn2 hsn hsm h0
        gi_wp2_with fail
        clear hcb' hcl'
        gi_loopg [8, 50] n2 (fun gg s8 s50 wr => ∃ (i : Nat) (q : List Int), s50 = .int .i64 i ∧ i ≤ n2 ∧ n2 - i ≤ gg ∧ Hid (q = p ++ blkW A.c (bef.take i) x m) ∧ Hid (J q wr) ∧ Hid (n1 ≤ wr.heap.size))
        case atStart => exact ⟨0, p, rfl, Nat.zero_le _, by omega, Lib.hid (by simp [blkW, fsts]), HJ3, HN3⟩
        case round =>
          obtain ⟨i, q, rfl, hi, hgg, HQ, HJ4, HN4⟩ := hrel
          clear HJ3 HC3 HN3
          have HC2 := Lib.hid (HK.out _ _ (HP.out.know HJ4.out))
          by_cases hlt : i < n2
          · have hltz : (i : Int) < (n2 : Int) := by omega
            obtain ⟨r9, hr9⟩ : ∃ r9, bef[i]? = some r9 := ⟨_, List.getElem?_eq_getElem (by rw [HLN.out]; exact hlt)⟩
            have hbm := HBW.out r9 (List.mem_of_getElem? hr9)
            obtain ⟨bq, c', e1, -, -, hbl, c0, c1⟩ := HC2.out.rb.at hr9
            rw [HSF.out] at e1
            have ea : sa = some ⟨bq, 0, none⟩ := by
              simp only [Value.slice.injEq] at e1
              exact e1.1
            subst ea
            have HR9 := Lib.hid hr9
            obtain ⟨py, pm⟩ := r9
            have HPM : Hid (U8 pm) := Lib.hid hbm.1
            have HPX : Hid (py ≠ x) := Lib.hid hbm.2
            have hnew := Lit.new wr 65 [.int .i64 py, .int .u8 pm]
            have hal := Below.allocs wr (.cells #[.int .i64 py, .int .u8 pm] 65)
            obtain ⟨W1, hW1⟩ : ∃ W1, wr.alloc (.cells #[.int .i64 py, .int .u8 pm] 65) = W1 := ⟨_, rfl⟩
            obtain ⟨g1, hg1⟩ : ∃ g1, wr.heap.size = g1 := ⟨_, rfl⟩
            have hnew : Lit W1 g1 65 [.int .i64 py, .int .u8 pm] := by rw [← hW1, ← hg1]; exact hnew
            rw [hW1] at hal
            have HNEW := Lib.hid hnew
            have HC3 := Lib.hid (HC2.out.below hal)
            have HJ5 := Lib.hid (HP.out.old HJ4.out HN4.out hal)
            have HN5 := Lib.hid (Nat.le_trans HN4.out hal.size)
            have HW1 := Lib.hid hW1
            have HG1 := Lib.hid hg1
            have HLT := Lib.hid (And.intro hlt (And.intro hi hgg))
            have hqx : blkW A.c (bef.take (i + 1)) x m = blkW A.c (bef.take i) x m ++ (if goB A.c (withN 0 pm) m = true then [] else [py]) := blkW_take HR9.out HPX.out
            have HQX := Lib.hid hqx
            obtain ⟨wv, hwv⟩ : ∃ wv, withN 0 pm = wv := ⟨_, rfl⟩
            have HWV := Lib.hid hwv
            have HU : Hid (U16 wv) := Lib.hid (by rw [← hwv]; exact with_u16 u16_0 HPM.out.1)
            rw [hwv] at HQX
            clear hr9 hbm e1 hnew hal hW1 hg1 hqx hwv hi hgg HJ4 HN4 HC2
            gi_wp2_with fail
            rw [HW1.out, HG1.out]
            clear c0 c1
            have hdr0 := below_drw W1
            cases hg : goB A.c wv m with
            | true =>
              have HG := Lib.hid hg
              clear hg
              have hdr := below_drw W1
              try simp only [List.append_eq, List.cons_append, List.nil_append]
              refine RX.wpIn_region_planT (r := none) 15 (fun w w' => Below w.heap.size w w') [.it (.pointer (some ⟨h, 0, none⟩)), .it (.pointer (some ⟨h, 0, none⟩)), .it (.pointer (some ⟨h, 0, none⟩)), .it (.int .u8 A.c), .it (.pointer (some ⟨g1, 1, none⟩)), .it (.int .u8 pm), .it (.int .u16 wv), .it (.pointer (some ⟨e + 1, 1, none⟩)), .it (.int .u8 m), .it (.bool true), .it (.bool false), .it (.bool false), .it undef, .it undef, .it undef] mixed (by kernel_rfl) (by kernel_rfl) (fun hlo => ?hlo) (fun _ => Below.refl _ _) (fun _ _ _ => below_tr) ?_
              case hlo =>
                first | (obtain ⟨_, _, hh⟩ := hlo; obtain ⟨⟨_, hh⟩, _⟩ := hh; cases hh) | skip
              simp only [List.take_succ_cons, List.take_zero, List.drop_succ_cons, List.drop_zero]
              refine RX.seqP_value (fun _ => Below.refl _ _) _ (by first | rfl | simp) (fun w' hw' hctx => ?_) ?_
              · have q := (HC3.out.below (below_tr hdr hw')).pl
                have d0 := q.cell (o := 0) rfl
                have dl := q.lt
                go_simp
                try first | with_reducible rfl | simp
              simp only [Act.put, List.setIfInBounds_toArray, List.set_cons_zero, List.set_cons_succ]
              refine RX.seqP_value (fun _ => Below.refl _ _) _ (by first | rfl | simp) (fun w' hw' hctx => by (go_simp); (try first | with_reducible rfl | simp)) ?_
              simp only [Act.put, List.setIfInBounds_toArray, List.set_cons_zero, List.set_cons_succ]
              refine RX.seqP_value (fun _ => Below.refl _ _) _ (by first | rfl | simp) (fun w' hw' hctx => by (go_simp); (try first | with_reducible rfl | simp)) ?_
              simp only [Act.put, List.setIfInBounds_toArray, List.set_cons_zero, List.set_cons_succ]
              refine RX.seqP_value (fun _ => Below.refl _ _) _ (by first | rfl | simp) (fun w' hw' hctx => ?_) ?_
              · have q := (HC3.out.below (below_tr hdr hw')).lk
                obtain ⟨d0, d1, d2, dl⟩ := q.cells
                go_simp
                try first | with_reducible rfl | simp
              simp only [Act.put, List.setIfInBounds_toArray, List.set_cons_zero, List.set_cons_succ]
              refine RX.seqP_value (fun _ => Below.refl _ _) _ (by first | rfl | simp) (fun w' hw' hctx => by (go_simp); (try first | with_reducible rfl | simp)) ?_
              simp only [Act.put, List.setIfInBounds_toArray, List.set_cons_zero, List.set_cons_succ]
              refine RX.seqP_value (fun _ => Below.refl _ _) _ (by first | rfl | simp) (fun w' hw' hctx => ?_) ?_
              · have q := HNEW.out.below (below_tr hdr hw')
                have d0 := q.cell (o := 0) rfl
                have d1 := q.cell (o := 1) rfl
                have dl := q.lt
                go_simp
                try first | with_reducible rfl | simp
              simp only [Act.put, List.setIfInBounds_toArray, List.set_cons_zero, List.set_cons_succ]
              refine RX.seqP_call (61) #[.int .u16 0, .int .u8 pm] (.int .u16 wv) (by first | rfl | simp) (fun w' hw' hctx => ?_) (fun w' hw' hctx => with_is 0 pm HPM.out u16_0 w' wv HWV.out) ?_
              · go_simp
              simp only [Act.put, List.setIfInBounds_toArray, List.set_cons_zero, List.set_cons_succ]
              refine RX.seqP_value (fun _ => Below.refl _ _) _ (by first | rfl | simp) (fun w' hw' hctx => by (go_simp); (try first | with_reducible rfl | simp)) ?_
              simp only [Act.put, List.setIfInBounds_toArray, List.set_cons_zero, List.set_cons_succ]
              refine RX.seqP_value (fun _ => Below.refl _ _) _ (by first | rfl | simp) (fun w' hw' hctx => ?_) ?_
              · have q := (HC3.out.below (below_tr hdr hw')).pr
                have d0 := q.cell (o := 0) rfl
                have d1 := q.cell (o := 1) rfl
                have dl := q.lt
                go_simp
                try first | with_reducible rfl | simp
              simp only [Act.put, List.setIfInBounds_toArray, List.set_cons_zero, List.set_cons_succ]
              refine RX.seqP_call (26) #[.int .u8 A.c, .int .u16 wv, .int .u8 m] (.bool true) (by first | rfl | simp) (fun w' hw' hctx => ?_) (fun w' hw' hctx => go_is A.c wv m HM8.out HU.out w' true HG.out) ?_
              · go_simp
              simp only [Act.put, List.setIfInBounds_toArray, List.set_cons_zero, List.set_cons_succ]
              refine RX.seqP_value (fun _ => Below.refl _ _) _ (by first | rfl | simp) (fun w' hw' hctx => by (go_simp); (try first | with_reducible rfl | simp)) ?_
              simp only [Act.put, List.setIfInBounds_toArray, List.set_cons_zero, List.set_cons_succ]
              refine RX.seqP_value (fun _ => Below.refl _ _) _ (by first | rfl | simp) (fun w' hw' hctx => by (go_simp); (try first | with_reducible rfl | simp)) ?_
              simp only [Act.put, List.setIfInBounds_toArray, List.set_cons_zero, List.set_cons_succ]
              refine RX.seqP_skip (by first | rfl | simp) ?_
              simp only [Act.put, List.setIfInBounds_toArray, List.set_cons_zero, List.set_cons_succ]
              refine RX.seqP_skip (by first | rfl | simp) ?_
              simp only [Act.put, List.setIfInBounds_toArray, List.set_cons_zero, List.set_cons_succ]
              refine RX.seqP_skip (by first | rfl | simp) ?_
              simp only [Act.put, List.setIfInBounds_toArray, List.set_cons_zero, List.set_cons_succ]
              refine RX.seqP_nil (fun w6 hR hctx _ => ?_)
              have hb6 := below_tr hdr hR
              clear hctx hR
              unfold RX.tailQ
              rw [show RX.wideAt none = Fence.wide from rfl]
              have HJ6 := Lib.hid (HP.out.old HJ5.out HN5.out hb6)
              have HN6 := Lib.hid (Nat.le_trans HN5.out hb6.size)
              clear hb6 hdr hdr0 HJ5 HC3 HN5 HNEW
              gi_wp2_with fail
              refine ⟨fun _ hh => (by cases hh), ?_⟩
              gi_wp2_with fail
              gi_roundg (n2 - (i + 1))
              case measure => have := HLT.out; omega
              case rel => exact ⟨i + 1, q, by go_num, by have := HLT.out; omega, Nat.le_refl _, Lib.hid (by rw [HQX.out, HG.out, if_pos rfl, List.append_nil]; exact HQ.out), HJ6, HN6⟩
            | false =>
              have HG := Lib.hid hg
              clear hg
              have hdr := below_drw W1
              try simp only [List.append_eq, List.cons_append, List.nil_append]
              refine RX.wpIn_region_planT (r := none) 15 (fun w w' => Below w.heap.size w w') [.it (.pointer (some ⟨h, 0, none⟩)), .it (.pointer (some ⟨h, 0, none⟩)), .it (.pointer (some ⟨h, 0, none⟩)), .it (.int .u8 A.c), .it (.pointer (some ⟨g1, 1, none⟩)), .it (.int .u8 pm), .it (.int .u16 wv), .it (.pointer (some ⟨e + 1, 1, none⟩)), .it (.int .u8 m), .it (.bool false), .it (.bool true), .it (.bool true), .it (.func (.yield l) #[] #[]), .it (.pointer (some ⟨g1, 0, none⟩)), .it (.int .i64 py)] mixed (by kernel_rfl) (by kernel_rfl) (fun hlo => ?hlo) (fun _ => Below.refl _ _) (fun _ _ _ => below_tr) ?_
              case hlo =>
                first | (obtain ⟨_, _, hh⟩ := hlo; obtain ⟨⟨_, hh⟩, _⟩ := hh; cases hh) | skip
              simp only [List.take_succ_cons, List.take_zero, List.drop_succ_cons, List.drop_zero]
              refine RX.seqP_value (fun _ => Below.refl _ _) _ (by first | rfl | simp) (fun w' hw' hctx => ?_) ?_
              · have q := (HC3.out.below (below_tr hdr hw')).pl
                have d0 := q.cell (o := 0) rfl
                have dl := q.lt
                go_simp
                try first | with_reducible rfl | simp
              simp only [Act.put, List.setIfInBounds_toArray, List.set_cons_zero, List.set_cons_succ]
              refine RX.seqP_value (fun _ => Below.refl _ _) _ (by first | rfl | simp) (fun w' hw' hctx => by (go_simp); (try first | with_reducible rfl | simp)) ?_
              simp only [Act.put, List.setIfInBounds_toArray, List.set_cons_zero, List.set_cons_succ]
              refine RX.seqP_value (fun _ => Below.refl _ _) _ (by first | rfl | simp) (fun w' hw' hctx => by (go_simp); (try first | with_reducible rfl | simp)) ?_
              simp only [Act.put, List.setIfInBounds_toArray, List.set_cons_zero, List.set_cons_succ]
              refine RX.seqP_value (fun _ => Below.refl _ _) _ (by first | rfl | simp) (fun w' hw' hctx => ?_) ?_
              · have q := (HC3.out.below (below_tr hdr hw')).lk
                obtain ⟨d0, d1, d2, dl⟩ := q.cells
                go_simp
                try first | with_reducible rfl | simp
              simp only [Act.put, List.setIfInBounds_toArray, List.set_cons_zero, List.set_cons_succ]
              refine RX.seqP_value (fun _ => Below.refl _ _) _ (by first | rfl | simp) (fun w' hw' hctx => by (go_simp); (try first | with_reducible rfl | simp)) ?_
              simp only [Act.put, List.setIfInBounds_toArray, List.set_cons_zero, List.set_cons_succ]
              refine RX.seqP_value (fun _ => Below.refl _ _) _ (by first | rfl | simp) (fun w' hw' hctx => ?_) ?_
              · have q := HNEW.out.below (below_tr hdr hw')
                have d0 := q.cell (o := 0) rfl
                have d1 := q.cell (o := 1) rfl
                have dl := q.lt
                go_simp
                try first | with_reducible rfl | simp
              simp only [Act.put, List.setIfInBounds_toArray, List.set_cons_zero, List.set_cons_succ]
              refine RX.seqP_call (61) #[.int .u16 0, .int .u8 pm] (.int .u16 wv) (by first | rfl | simp) (fun w' hw' hctx => ?_) (fun w' hw' hctx => with_is 0 pm HPM.out u16_0 w' wv HWV.out) ?_
              · go_simp
              simp only [Act.put, List.setIfInBounds_toArray, List.set_cons_zero, List.set_cons_succ]
              refine RX.seqP_value (fun _ => Below.refl _ _) _ (by first | rfl | simp) (fun w' hw' hctx => by (go_simp); (try first | with_reducible rfl | simp)) ?_
              simp only [Act.put, List.setIfInBounds_toArray, List.set_cons_zero, List.set_cons_succ]
              refine RX.seqP_value (fun _ => Below.refl _ _) _ (by first | rfl | simp) (fun w' hw' hctx => ?_) ?_
              · have q := (HC3.out.below (below_tr hdr hw')).pr
                have d0 := q.cell (o := 0) rfl
                have d1 := q.cell (o := 1) rfl
                have dl := q.lt
                go_simp
                try first | with_reducible rfl | simp
              simp only [Act.put, List.setIfInBounds_toArray, List.set_cons_zero, List.set_cons_succ]
              refine RX.seqP_call (26) #[.int .u8 A.c, .int .u16 wv, .int .u8 m] (.bool false) (by first | rfl | simp) (fun w' hw' hctx => ?_) (fun w' hw' hctx => go_is A.c wv m HM8.out HU.out w' false HG.out) ?_
              · go_simp
              simp only [Act.put, List.setIfInBounds_toArray, List.set_cons_zero, List.set_cons_succ]
              refine RX.seqP_value (fun _ => Below.refl _ _) _ (by first | rfl | simp) (fun w' hw' hctx => by (go_simp); (try first | with_reducible rfl | simp)) ?_
              simp only [Act.put, List.setIfInBounds_toArray, List.set_cons_zero, List.set_cons_succ]
              refine RX.seqP_value (fun _ => Below.refl _ _) _ (by first | rfl | simp) (fun w' hw' hctx => by (go_simp); (try first | with_reducible rfl | simp)) ?_
              simp only [Act.put, List.setIfInBounds_toArray, List.set_cons_zero, List.set_cons_succ]
              refine RX.seqP_value (fun _ => Below.refl _ _) _ (by first | rfl | simp) (fun w' hw' hctx => by (go_simp); (try first | with_reducible rfl | simp)) ?_
              simp only [Act.put, List.setIfInBounds_toArray, List.set_cons_zero, List.set_cons_succ]
              refine RX.seqP_value (fun _ => Below.refl _ _) _ (by first | rfl | simp) (fun w' hw' hctx => by (go_simp); (try first | with_reducible rfl | simp)) ?_
              simp only [Act.put, List.setIfInBounds_toArray, List.set_cons_zero, List.set_cons_succ]
              refine RX.seqP_value (fun _ => Below.refl _ _) _ (by first | rfl | simp) (fun w' hw' hctx => ?_) ?_
              · have q := HNEW.out.below (below_tr hdr hw')
                have d0 := q.cell (o := 0) rfl
                have d1 := q.cell (o := 1) rfl
                have dl := q.lt
                go_simp
                try first | with_reducible rfl | simp
              simp only [Act.put, List.setIfInBounds_toArray, List.set_cons_zero, List.set_cons_succ]
              refine RX.seqP_nil (fun w6 hR hctx _ => ?_)
              have hb6 := below_tr hdr hR
              clear hctx hR
              unfold RX.tailQ
              rw [show RX.wideAt none = Fence.wide from rfl]
              have hn6 := Nat.le_trans HN5.out hb6.size
              have hJ6 := HP.out.old HJ5.out HN5.out hb6
              have HIN : Hid (∀ z ∈ q ++ [py], z ∈ allB A.c A.hd bef x m) := Lib.hid (fun z hz => by
                have hsub : ∀ z ∈ p ++ blkW A.c (bef.take (i + 1)) x m, z ∈ allB A.c A.hd bef x m := fun z hz => by
                  rcases List.mem_append.1 hz with hz | hz
                  · exact sub_all ((HFIN.out z).1 hz)
                  · exact List.mem_append.2 (.inr (by rw [if_pos HH0.out]; exact blkW_sub hz))
                refine hsub z ?_
                rw [HQX.out, HG.out, if_neg (by simp), ← List.append_assoc, ← HQ.out]
                exact hz)
              have HQL : Hid (q.length + 1 ≤ n + bef.length) := Lib.hid (by
                rw [HQ.out, List.length_append]
                have := blkW_len A.c (bef.take i) x m
                rw [List.length_take] at this
                have := HPL.out
                have := HLN.out
                have := HLT.out.1
                omega)
              obtain ⟨fn, tmps, assign, body, hyl, hR⟩ := HP.out.turn q py w6 hn6 hJ6 ⟨by rw [List.length_append, List.length_singleton]; exact HQL.out, HIN.out⟩
              simp only [encI] at hyl
              have HRR := Lib.hid hR
              have HN6 := Lib.hid hn6
              clear hR hn6 hJ6 hb6 hdr hdr0 HJ5 HC3 HN5 HNEW
              gi_wp2_with fail
              refine HRR.out.mono ?_
              rintro r w7 ⟨hz7, ht7, ⟨rfl, hj7⟩ | ⟨rfl, hj7⟩⟩
              · have HJ7 := Lib.hid hj7
                have HN7 := Lib.hid (Nat.le_trans HN6.out hz7)
                clear hz7 ht7 hj7 hyl HRR HN6
                gi_wp2_with fail
                gi_roundg (n2 - (i + 1))
                case measure => have := HLT.out; omega
                case rel => exact ⟨i + 1, q ++ [py], by go_num, by have := HLT.out; omega, Nat.le_refl _, Lib.hid (by rw [HQX.out, HG.out, if_neg (by simp), ← List.append_assoc, ← HQ.out]), HJ7, HN7⟩
              · have HJ7 := Lib.hid hj7
                clear hz7 ht7 hj7 hyl HRR HN6
                gi_wp2_with fail
                refine bodyPost_ret (results_none rfl _ _ _) rfl ?_
                exact ⟨⟨_, rfl⟩, q ++ [py], .inr ⟨⟨by simp, HIN.out⟩, HJ7.out⟩⟩
          · have hltz : ¬ (i : Int) < (n2 : Int) := by omega
            have hin : i = n2 := by omega
            subst hin
            gi_wp2_with fail
            go_end0
            refine ⟨⟨_, rfl⟩, q, .inl ⟨fun y => ?_, HJ4.out⟩⟩
            have hq9 := HQ.out
            rw [List.take_of_length_le (by rw [HLN.out]; exact Nat.le_refl _)] at hq9
            unfold allB
            rw [if_pos HH0.out, hq9, List.mem_append, List.mem_append, HFIN.out]
      · have hzx : (hx != 0) = true := by simp [h0]
        have hzx2 : (hx == 0) = false := by simp [h0]
        obtain ⟨zx, hz⟩ : ∃ zx, (hx != 0) = zx := ⟨_, rfl⟩
        have hz3 : zx = true := by rw [← hz]; exact hzx
        refine wpIn_wide.2 ?_
        have hdr := below_drw wr
        try simp only [List.append_eq, List.cons_append, List.nil_append]
        refine RX.wp_region_plan (fun w w' => Below w.heap.size w w') [.it (.pointer (some ⟨h, 0, none⟩)), .it (.pointer (some ⟨h, 0, none⟩)), .it (.pointer (some ⟨h, 1, none⟩)), .it (.map (some b)), .it (.pointer (some ⟨e + 1, 0, none⟩)), .it (.int .i64 x), .it (.int .u16 hx), .it (.bool zx)] (by kernel_rfl) (by kernel_rfl) (fun _ => Below.refl _ _) (fun _ _ _ => below_tr) ?_
        refine RX.seqP_value (fun _ => Below.refl _ _) _ (by first | rfl | simp) (fun w' hw' hctx => ?_) ?_
        · have q := (HC2.out.below (below_tr hdr hw')).pl
          have d0 := q.cell (o := 0) rfl
          have dl := q.lt
          go_simp
          try first | with_reducible rfl | simp
        simp only [Act.put, List.setIfInBounds_toArray, List.set_cons_zero, List.set_cons_succ]
        refine RX.seqP_value (fun _ => Below.refl _ _) _ (by first | rfl | simp) (fun w' hw' hctx => by (go_simp); (try first | with_reducible rfl | simp)) ?_
        simp only [Act.put, List.setIfInBounds_toArray, List.set_cons_zero, List.set_cons_succ]
        refine RX.seqP_value (fun _ => Below.refl _ _) _ (by first | rfl | simp) (fun w' hw' hctx => by (go_simp); (try first | with_reducible rfl | simp)) ?_
        simp only [Act.put, List.setIfInBounds_toArray, List.set_cons_zero, List.set_cons_succ]
        refine RX.seqP_value (fun _ => Below.refl _ _) _ (by first | rfl | simp) (fun w' hw' hctx => ?_) ?_
        · have q := (HC2.out.below (below_tr hdr hw')).lk
          obtain ⟨d0, d1, d2, dl⟩ := q.cells
          go_simp
          try first | with_reducible rfl | simp
        simp only [Act.put, List.setIfInBounds_toArray, List.set_cons_zero, List.set_cons_succ]
        refine RX.seqP_value (fun _ => Below.refl _ _) _ (by first | rfl | simp) (fun w' hw' hctx => by (go_simp); (try first | with_reducible rfl | simp)) ?_
        simp only [Act.put, List.setIfInBounds_toArray, List.set_cons_zero, List.set_cons_succ]
        refine RX.seqP_value (fun _ => Below.refl _ _) _ (by first | rfl | simp) (fun w' hw' hctx => ?_) ?_
        · have q := (HC2.out.below (below_tr hdr hw')).pr
          have d0 := q.cell (o := 0) rfl
          have dl := q.lt
          go_simp
          try first | with_reducible rfl | simp
        simp only [Act.put, List.setIfInBounds_toArray, List.set_cons_zero, List.set_cons_succ]
        refine RX.seqP_value (fun _ => Below.refl _ _) _ (by first | rfl | simp) (fun w' hw' hctx => ?_) ?_
        · have q := ((HC2.out.below (below_tr hdr hw')).lk).look HXI.out
          rw [HHX.out] at q
          go_simp
          try first | with_reducible rfl | simp
        simp only [Act.put, List.setIfInBounds_toArray, List.set_cons_zero, List.set_cons_succ]
        refine RX.seqP_value (fun _ => Below.refl _ _) _ (by first | rfl | simp) (fun w' hw' hctx => by (go_simp); (try first | with_reducible rfl | simp)) ?_
        simp only [Act.put, List.setIfInBounds_toArray, List.set_cons_zero, List.set_cons_succ]
        refine RX.seqP_nil (fun w3 hR hctx _ => ?_)
        have hb3 := below_tr hdr hR
        clear hctx hR
        have HJ3 := Lib.hid (HP.out.old HJ2.out HN2.out hb3)
        have HH0 : Hid (heldL A.hd x ≠ 0) := Lib.hid (by rw [HHX.out]; exact h0)
        subst hz3
        clear hb3 hdr hz hzx hzx2 HJ2 HC2 HN2
        gi_wp2_with fail
        refine bodyPost_ret (results_none rfl _ _ _) rfl ?_
        refine ⟨⟨_, rfl⟩, p, .inl ⟨fun y => ?_, HJ3.out⟩⟩
        unfold allB
        rw [if_neg HH0.out, List.append_nil, HFIN.out]
    · -- one more
      obtain ⟨rfl, hne0⟩ := mapV_some hf
      have HJ3 := Lib.hid (HP.out.walk HJ2.out (by have := HN1.out.1; have := HRS.out; omega) HN1.out.1 HRG1.out.iter ht2)
      have HC2 := Lib.hid (HK.out _ _ (HP.out.know HJ3.out))
      have HRG2 := Lib.hid hrg2
      have HS2 : Hid (r0 < w2.heap.size) := Lib.hid (by rw [hs2]; exact HRS.out)
      have HLT2 := Lib.hid hlt2
      obtain ⟨hv, hhv⟩ : ∃ hv, heldL A.hd y = hv := ⟨_, rfl⟩
      have HU : Hid (U16 hv) := Lib.hid (by rw [← hhv]; exact held_u16 HOK.out y)
      have HNE : Hid (heldL A.hd y ≠ 0) := Lib.hid hne0
      have HHV := Lib.hid hhv
      have HYI := Lib.hid hy
      rw [hhv] at hen ⊢
      clear hf hne0 hrg2 hlt2 ht2 hs2 hy hly HJ2 HRG1 HRS hhv
      gi_wp2_with fail
      clear hen
      have hdr0 := below_drw w2
      by_cases hyx : y = x
      · -- the one who asks
        have hq : (y != x) = false := by simp [hyx]
        have hq2 : (y == x) = true := by simp [hyx]
        have HSK : Hid (Half A x m (fun z => left z && !decide (z = y)) p) := Lib.hid (HH2.out.skip (fun hm => by have := (blkH_held HOK.out).1 hm; exact this.1 hyx))
        have hdr := below_drw w2
        try simp only [List.append_eq, List.cons_append, List.nil_append]
        refine RX.wpIn_region_planT (r := none) 18 (fun w w' => Below w.heap.size w w') [.it (.int .i64 y), .it (.pointer (some ⟨e + 1, 0, none⟩)), .it (.int .i64 x), .it (.bool false), .it (.bool false), .it undef, .it undef, .it undef, .it undef, .it undef, .it undef, .it undef, .it undef, .it undef, .it (.bool false), .it (.bool false), .it undef, .it undef] mixed (by kernel_rfl) (by kernel_rfl) (fun hlo => ?hlo) (fun _ => Below.refl _ _) (fun _ _ _ => below_tr) ?_
        case hlo =>
          first | (obtain ⟨_, _, hh⟩ := hlo; obtain ⟨⟨_, hh⟩, _⟩ := hh; cases hh) | skip
        simp only [List.take_succ_cons, List.take_zero, List.drop_succ_cons, List.drop_zero]
        refine RX.seqP_value (fun _ => Below.refl _ _) _ (by first | rfl | simp) (fun w' hw' hctx => by (go_simp); (try first | with_reducible rfl | simp)) ?_
        simp only [Act.put, List.setIfInBounds_toArray, List.set_cons_zero, List.set_cons_succ]
        refine RX.seqP_value (fun _ => Below.refl _ _) _ (by first | rfl | simp) (fun w' hw' hctx => by (go_simp); (try first | with_reducible rfl | simp)) ?_
        simp only [Act.put, List.setIfInBounds_toArray, List.set_cons_zero, List.set_cons_succ]
        refine RX.seqP_value (fun _ => Below.refl _ _) _ (by first | rfl | simp) (fun w' hw' hctx => ?_) ?_
        · have q := (HC2.out.below (below_tr hdr hw')).pr
          have d0 := q.cell (o := 0) rfl
          have d1 := q.cell (o := 1) rfl
          have dl := q.lt
          go_simp
          try first | with_reducible rfl | simp
        simp only [Act.put, List.setIfInBounds_toArray, List.set_cons_zero, List.set_cons_succ]
        refine RX.seqP_value (fun _ => Below.refl _ _) _ (by first | rfl | simp) (fun w' hw' hctx => by (go_simp); (try first | with_reducible rfl | simp)) ?_
        simp only [Act.put, List.setIfInBounds_toArray, List.set_cons_zero, List.set_cons_succ]
        refine RX.seqP_value (fun _ => Below.refl _ _) _ (by first | rfl | simp) (fun w' hw' hctx => by (go_simp); (try first | with_reducible rfl | simp)) ?_
        simp only [Act.put, List.setIfInBounds_toArray, List.set_cons_zero, List.set_cons_succ]
        refine RX.seqP_skip (by first | rfl | simp) ?_
        simp only [Act.put, List.setIfInBounds_toArray, List.set_cons_zero, List.set_cons_succ]
        refine RX.seqP_skip (by first | rfl | simp) ?_
        simp only [Act.put, List.setIfInBounds_toArray, List.set_cons_zero, List.set_cons_succ]
        refine RX.seqP_skip (by first | rfl | simp) ?_
        simp only [Act.put, List.setIfInBounds_toArray, List.set_cons_zero, List.set_cons_succ]
        refine RX.seqP_skip (by first | rfl | simp) ?_
        simp only [Act.put, List.setIfInBounds_toArray, List.set_cons_zero, List.set_cons_succ]
        refine RX.seqP_skip (by first | rfl | simp) ?_
        simp only [Act.put, List.setIfInBounds_toArray, List.set_cons_zero, List.set_cons_succ]
        refine RX.seqP_skip (by first | rfl | simp) ?_
        simp only [Act.put, List.setIfInBounds_toArray, List.set_cons_zero, List.set_cons_succ]
        refine RX.seqP_skip (by first | rfl | simp) ?_
        simp only [Act.put, List.setIfInBounds_toArray, List.set_cons_zero, List.set_cons_succ]
        refine RX.seqP_skip (by first | rfl | simp) ?_
        simp only [Act.put, List.setIfInBounds_toArray, List.set_cons_zero, List.set_cons_succ]
        refine RX.seqP_skip (by first | rfl | simp) ?_
        simp only [Act.put, List.setIfInBounds_toArray, List.set_cons_zero, List.set_cons_succ]
        refine RX.seqP_value (fun _ => Below.refl _ _) _ (by first | rfl | simp) (fun w' hw' hctx => by (go_simp); (try first | with_reducible rfl | simp)) ?_
        simp only [Act.put, List.setIfInBounds_toArray, List.set_cons_zero, List.set_cons_succ]
        refine RX.seqP_value (fun _ => Below.refl _ _) _ (by first | rfl | simp) (fun w' hw' hctx => by (go_simp); (try first | with_reducible rfl | simp)) ?_
        simp only [Act.put, List.setIfInBounds_toArray, List.set_cons_zero, List.set_cons_succ]
        refine RX.seqP_skip (by first | rfl | simp) ?_
        simp only [Act.put, List.setIfInBounds_toArray, List.set_cons_zero, List.set_cons_succ]
        refine RX.seqP_skip (by first | rfl | simp) ?_
        simp only [Act.put, List.setIfInBounds_toArray, List.set_cons_zero, List.set_cons_succ]
        refine RX.seqP_nil (fun w3 hR hctx _ => ?_)
        have hb3 := below_tr hdr hR
        clear hctx hR
        unfold RX.tailQ
        rw [show RX.wideAt none = Fence.wide from rfl]
        have HJ4 := Lib.hid (HP.out.old HJ3.out (by have := HN1.out.1; have := HS2.out; omega) hb3)
        have HRG4 := Lib.hid (HRG2.out.below hb3)
        have HS4 : Hid (r0 < w3.heap.size) := Lib.hid (Nat.lt_of_lt_of_le HS2.out hb3.size)
        clear hb3 hdr hdr0 HJ3 HRG2 HS2 HC2
        gi_wp2_with fail
        refine ⟨fun _ hh => (by cases hh), ?_⟩
        gi_wp2_with fail
        gi_roundg cnt2
        case measure => have := HLT2.out; have := HGG.out; omega
        case rel => exact ⟨_, cnt2, p, Nat.le_refl _, HRG4, HJ4, HSK, Lib.hid (by have := HLT2.out; have := HLEN.out; omega), HS4⟩
      · have hq : (y != x) = true := by simp [hyx]
        have hq2 : (y == x) = false := by simp [hyx]
        cases hg : goB A.c hv m with
        | true =>
          -- it goes with what is held
          have HG := Lib.hid hg
          have HSK : Hid (Half A x m (fun z => left z && !decide (z = y)) p) := Lib.hid (HH2.out.skip (fun hm => by have := (blkH_held HOK.out).1 hm; rw [HHV.out, hg] at this; cases this.2.2))
          clear hg
          have hdr := below_drw w2
          try simp only [List.append_eq, List.cons_append, List.nil_append]
          refine RX.wpIn_region_planT (r := none) 18 (fun w w' => Below w.heap.size w w') [.it (.int .i64 y), .it (.pointer (some ⟨e + 1, 0, none⟩)), .it (.int .i64 x), .it (.bool true), .it (.bool true), .it (.pointer (some ⟨h, 0, none⟩)), .it (.pointer (some ⟨h, 0, none⟩)), .it (.pointer (some ⟨h, 0, none⟩)), .it (.int .u8 A.c), .it (.int .u16 hv), .it (.pointer (some ⟨e + 1, 1, none⟩)), .it (.int .u8 m), .it (.bool true), .it (.bool false), .it (.bool false), .it (.bool false), .it undef, .it undef] mixed (by kernel_rfl) (by kernel_rfl) (fun hlo => ?hlo) (fun _ => Below.refl _ _) (fun _ _ _ => below_tr) ?_
          case hlo =>
            first | (obtain ⟨_, _, hh⟩ := hlo; obtain ⟨⟨_, hh⟩, _⟩ := hh; cases hh) | skip
          simp only [List.take_succ_cons, List.take_zero, List.drop_succ_cons, List.drop_zero]
          refine RX.seqP_value (fun _ => Below.refl _ _) _ (by first | rfl | simp) (fun w' hw' hctx => by (go_simp); (try first | with_reducible rfl | simp)) ?_
          simp only [Act.put, List.setIfInBounds_toArray, List.set_cons_zero, List.set_cons_succ]
          refine RX.seqP_value (fun _ => Below.refl _ _) _ (by first | rfl | simp) (fun w' hw' hctx => by (go_simp); (try first | with_reducible rfl | simp)) ?_
          simp only [Act.put, List.setIfInBounds_toArray, List.set_cons_zero, List.set_cons_succ]
          refine RX.seqP_value (fun _ => Below.refl _ _) _ (by first | rfl | simp) (fun w' hw' hctx => ?_) ?_
          · have q := (HC2.out.below (below_tr hdr hw')).pr
            have d0 := q.cell (o := 0) rfl
            have d1 := q.cell (o := 1) rfl
            have dl := q.lt
            go_simp
            try first | with_reducible rfl | simp
          simp only [Act.put, List.setIfInBounds_toArray, List.set_cons_zero, List.set_cons_succ]
          refine RX.seqP_value (fun _ => Below.refl _ _) _ (by first | rfl | simp) (fun w' hw' hctx => by (go_simp); (try first | with_reducible rfl | simp)) ?_
          simp only [Act.put, List.setIfInBounds_toArray, List.set_cons_zero, List.set_cons_succ]
          refine RX.seqP_value (fun _ => Below.refl _ _) _ (by first | rfl | simp) (fun w' hw' hctx => by (go_simp); (try first | with_reducible rfl | simp)) ?_
          simp only [Act.put, List.setIfInBounds_toArray, List.set_cons_zero, List.set_cons_succ]
          refine RX.seqP_value (fun _ => Below.refl _ _) _ (by first | rfl | simp) (fun w' hw' hctx => ?_) ?_
          · have q := (HC2.out.below (below_tr hdr hw')).pl
            have d0 := q.cell (o := 0) rfl
            have dl := q.lt
            go_simp
            try first | with_reducible rfl | simp
          simp only [Act.put, List.setIfInBounds_toArray, List.set_cons_zero, List.set_cons_succ]
          refine RX.seqP_value (fun _ => Below.refl _ _) _ (by first | rfl | simp) (fun w' hw' hctx => by (go_simp); (try first | with_reducible rfl | simp)) ?_
          simp only [Act.put, List.setIfInBounds_toArray, List.set_cons_zero, List.set_cons_succ]
          refine RX.seqP_value (fun _ => Below.refl _ _) _ (by first | rfl | simp) (fun w' hw' hctx => by (go_simp); (try first | with_reducible rfl | simp)) ?_
          simp only [Act.put, List.setIfInBounds_toArray, List.set_cons_zero, List.set_cons_succ]
          refine RX.seqP_value (fun _ => Below.refl _ _) _ (by first | rfl | simp) (fun w' hw' hctx => ?_) ?_
          · have q := (HC2.out.below (below_tr hdr hw')).lk
            obtain ⟨d0, d1, d2, dl⟩ := q.cells
            go_simp
            try first | with_reducible rfl | simp
          simp only [Act.put, List.setIfInBounds_toArray, List.set_cons_zero, List.set_cons_succ]
          refine RX.seqP_value (fun _ => Below.refl _ _) _ (by first | rfl | simp) (fun w' hw' hctx => by (go_simp); (try first | with_reducible rfl | simp)) ?_
          simp only [Act.put, List.setIfInBounds_toArray, List.set_cons_zero, List.set_cons_succ]
          refine RX.seqP_value (fun _ => Below.refl _ _) _ (by first | rfl | simp) (fun w' hw' hctx => by (go_simp); (try first | with_reducible rfl | simp)) ?_
          simp only [Act.put, List.setIfInBounds_toArray, List.set_cons_zero, List.set_cons_succ]
          refine RX.seqP_value (fun _ => Below.refl _ _) _ (by first | rfl | simp) (fun w' hw' hctx => ?_) ?_
          · have q := (HC2.out.below (below_tr hdr hw')).pr
            have d0 := q.cell (o := 0) rfl
            have d1 := q.cell (o := 1) rfl
            have dl := q.lt
            go_simp
            try first | with_reducible rfl | simp
          simp only [Act.put, List.setIfInBounds_toArray, List.set_cons_zero, List.set_cons_succ]
          refine RX.seqP_call (26) #[.int .u8 A.c, .int .u16 hv, .int .u8 m] (.bool true) (by first | rfl | simp) (fun w' hw' hctx => ?_) (fun w' hw' hctx => go_is A.c hv m HM8.out HU.out w' true HG.out) ?_
          · go_simp
          simp only [Act.put, List.setIfInBounds_toArray, List.set_cons_zero, List.set_cons_succ]
          refine RX.seqP_value (fun _ => Below.refl _ _) _ (by first | rfl | simp) (fun w' hw' hctx => by (go_simp); (try first | with_reducible rfl | simp)) ?_
          simp only [Act.put, List.setIfInBounds_toArray, List.set_cons_zero, List.set_cons_succ]
          refine RX.seqP_value (fun _ => Below.refl _ _) _ (by first | rfl | simp) (fun w' hw' hctx => by (go_simp); (try first | with_reducible rfl | simp)) ?_
          simp only [Act.put, List.setIfInBounds_toArray, List.set_cons_zero, List.set_cons_succ]
          refine RX.seqP_value (fun _ => Below.refl _ _) _ (by first | rfl | simp) (fun w' hw' hctx => by (go_simp); (try first | with_reducible rfl | simp)) ?_
          simp only [Act.put, List.setIfInBounds_toArray, List.set_cons_zero, List.set_cons_succ]
          refine RX.seqP_skip (by first | rfl | simp) ?_
          simp only [Act.put, List.setIfInBounds_toArray, List.set_cons_zero, List.set_cons_succ]
          refine RX.seqP_skip (by first | rfl | simp) ?_
          simp only [Act.put, List.setIfInBounds_toArray, List.set_cons_zero, List.set_cons_succ]
          refine RX.seqP_nil (fun w3 hR hctx _ => ?_)
          have hb3 := below_tr hdr hR
          clear hctx hR
          unfold RX.tailQ
          rw [show RX.wideAt none = Fence.wide from rfl]
          have HJ4 := Lib.hid (HP.out.old HJ3.out (by have := HN1.out.1; have := HS2.out; omega) hb3)
          have HRG4 := Lib.hid (HRG2.out.below hb3)
          have HS4 : Hid (r0 < w3.heap.size) := Lib.hid (Nat.lt_of_lt_of_le HS2.out hb3.size)
          clear hb3 hdr hdr0 HJ3 HRG2 HS2 HC2
          gi_wp2_with fail
          refine ⟨fun _ hh => (by cases hh), ?_⟩
          gi_wp2_with fail
          gi_roundg cnt2
          case measure => have := HLT2.out; have := HGG.out; omega
          case rel => exact ⟨_, cnt2, p, Nat.le_refl _, HRG4, HJ4, HSK, Lib.hid (by have := HLT2.out; have := HLEN.out; omega), HS4⟩
        | false =>
          -- it is in the way
          have HG := Lib.hid hg
          have hin : y ∈ blkH A.c A.hd x m := (blkH_held HOK.out).2 ⟨hyx, HNE.out, by rw [HHV.out]; exact hg⟩
          have HTK : Hid (Half A x m (fun z => left z && !decide (z = y)) (p ++ [y])) := Lib.hid (HH2.out.take hin)
          have HIN := Lib.hid hin
          clear hg hin
          have hdr := below_drw w2
          try simp only [List.append_eq, List.cons_append, List.nil_append]
          refine RX.wpIn_region_planT (r := none) 18 (fun w w' => Below w.heap.size w w') [.it (.int .i64 y), .it (.pointer (some ⟨e + 1, 0, none⟩)), .it (.int .i64 x), .it (.bool true), .it (.bool true), .it (.pointer (some ⟨h, 0, none⟩)), .it (.pointer (some ⟨h, 0, none⟩)), .it (.pointer (some ⟨h, 0, none⟩)), .it (.int .u8 A.c), .it (.int .u16 hv), .it (.pointer (some ⟨e + 1, 1, none⟩)), .it (.int .u8 m), .it (.bool false), .it (.bool true), .it (.bool true), .it (.bool true), .it (.func (.yield l) #[] #[]), .it (.int .i64 y)] mixed (by kernel_rfl) (by kernel_rfl) (fun hlo => ?hlo) (fun _ => Below.refl _ _) (fun _ _ _ => below_tr) ?_
          case hlo =>
            first | (obtain ⟨_, _, hh⟩ := hlo; obtain ⟨⟨_, hh⟩, _⟩ := hh; cases hh) | skip
          simp only [List.take_succ_cons, List.take_zero, List.drop_succ_cons, List.drop_zero]
          refine RX.seqP_value (fun _ => Below.refl _ _) _ (by first | rfl | simp) (fun w' hw' hctx => by (go_simp); (try first | with_reducible rfl | simp)) ?_
          simp only [Act.put, List.setIfInBounds_toArray, List.set_cons_zero, List.set_cons_succ]
          refine RX.seqP_value (fun _ => Below.refl _ _) _ (by first | rfl | simp) (fun w' hw' hctx => by (go_simp); (try first | with_reducible rfl | simp)) ?_
          simp only [Act.put, List.setIfInBounds_toArray, List.set_cons_zero, List.set_cons_succ]
          refine RX.seqP_value (fun _ => Below.refl _ _) _ (by first | rfl | simp) (fun w' hw' hctx => ?_) ?_
          · have q := (HC2.out.below (below_tr hdr hw')).pr
            have d0 := q.cell (o := 0) rfl
            have d1 := q.cell (o := 1) rfl
            have dl := q.lt
            go_simp
            try first | with_reducible rfl | simp
          simp only [Act.put, List.setIfInBounds_toArray, List.set_cons_zero, List.set_cons_succ]
          refine RX.seqP_value (fun _ => Below.refl _ _) _ (by first | rfl | simp) (fun w' hw' hctx => by (go_simp); (try first | with_reducible rfl | simp)) ?_
          simp only [Act.put, List.setIfInBounds_toArray, List.set_cons_zero, List.set_cons_succ]
          refine RX.seqP_value (fun _ => Below.refl _ _) _ (by first | rfl | simp) (fun w' hw' hctx => by (go_simp); (try first | with_reducible rfl | simp)) ?_
          simp only [Act.put, List.setIfInBounds_toArray, List.set_cons_zero, List.set_cons_succ]
          refine RX.seqP_value (fun _ => Below.refl _ _) _ (by first | rfl | simp) (fun w' hw' hctx => ?_) ?_
          · have q := (HC2.out.below (below_tr hdr hw')).pl
            have d0 := q.cell (o := 0) rfl
            have dl := q.lt
            go_simp
            try first | with_reducible rfl | simp
          simp only [Act.put, List.setIfInBounds_toArray, List.set_cons_zero, List.set_cons_succ]
          refine RX.seqP_value (fun _ => Below.refl _ _) _ (by first | rfl | simp) (fun w' hw' hctx => by (go_simp); (try first | with_reducible rfl | simp)) ?_
          simp only [Act.put, List.setIfInBounds_toArray, List.set_cons_zero, List.set_cons_succ]
          refine RX.seqP_value (fun _ => Below.refl _ _) _ (by first | rfl | simp) (fun w' hw' hctx => by (go_simp); (try first | with_reducible rfl | simp)) ?_
          simp only [Act.put, List.setIfInBounds_toArray, List.set_cons_zero, List.set_cons_succ]
          refine RX.seqP_value (fun _ => Below.refl _ _) _ (by first | rfl | simp) (fun w' hw' hctx => ?_) ?_
          · have q := (HC2.out.below (below_tr hdr hw')).lk
            obtain ⟨d0, d1, d2, dl⟩ := q.cells
            go_simp
            try first | with_reducible rfl | simp
          simp only [Act.put, List.setIfInBounds_toArray, List.set_cons_zero, List.set_cons_succ]
          refine RX.seqP_value (fun _ => Below.refl _ _) _ (by first | rfl | simp) (fun w' hw' hctx => by (go_simp); (try first | with_reducible rfl | simp)) ?_
          simp only [Act.put, List.setIfInBounds_toArray, List.set_cons_zero, List.set_cons_succ]
          refine RX.seqP_value (fun _ => Below.refl _ _) _ (by first | rfl | simp) (fun w' hw' hctx => by (go_simp); (try first | with_reducible rfl | simp)) ?_
          simp only [Act.put, List.setIfInBounds_toArray, List.set_cons_zero, List.set_cons_succ]
          refine RX.seqP_value (fun _ => Below.refl _ _) _ (by first | rfl | simp) (fun w' hw' hctx => ?_) ?_
          · have q := (HC2.out.below (below_tr hdr hw')).pr
            have d0 := q.cell (o := 0) rfl
            have d1 := q.cell (o := 1) rfl
            have dl := q.lt
            go_simp
            try first | with_reducible rfl | simp
          simp only [Act.put, List.setIfInBounds_toArray, List.set_cons_zero, List.set_cons_succ]
          refine RX.seqP_call (26) #[.int .u8 A.c, .int .u16 hv, .int .u8 m] (.bool false) (by first | rfl | simp) (fun w' hw' hctx => ?_) (fun w' hw' hctx => go_is A.c hv m HM8.out HU.out w' false HG.out) ?_
          · go_simp
          simp only [Act.put, List.setIfInBounds_toArray, List.set_cons_zero, List.set_cons_succ]
          refine RX.seqP_value (fun _ => Below.refl _ _) _ (by first | rfl | simp) (fun w' hw' hctx => by (go_simp); (try first | with_reducible rfl | simp)) ?_
          simp only [Act.put, List.setIfInBounds_toArray, List.set_cons_zero, List.set_cons_succ]
          refine RX.seqP_value (fun _ => Below.refl _ _) _ (by first | rfl | simp) (fun w' hw' hctx => by (go_simp); (try first | with_reducible rfl | simp)) ?_
          simp only [Act.put, List.setIfInBounds_toArray, List.set_cons_zero, List.set_cons_succ]
          refine RX.seqP_value (fun _ => Below.refl _ _) _ (by first | rfl | simp) (fun w' hw' hctx => by (go_simp); (try first | with_reducible rfl | simp)) ?_
          simp only [Act.put, List.setIfInBounds_toArray, List.set_cons_zero, List.set_cons_succ]
          refine RX.seqP_value (fun _ => Below.refl _ _) _ (by first | rfl | simp) (fun w' hw' hctx => by (go_simp); (try first | with_reducible rfl | simp)) ?_
          simp only [Act.put, List.setIfInBounds_toArray, List.set_cons_zero, List.set_cons_succ]
          refine RX.seqP_value (fun _ => Below.refl _ _) _ (by first | rfl | simp) (fun w' hw' hctx => by (go_simp); (try first | with_reducible rfl | simp)) ?_
          simp only [Act.put, List.setIfInBounds_toArray, List.set_cons_zero, List.set_cons_succ]
          refine RX.seqP_nil (fun w3 hR hctx _ => ?_)
          have hb3 := below_tr hdr hR
          clear hctx hR
          unfold RX.tailQ
          rw [show RX.wideAt none = Fence.wide from rfl]
          have hn3 : n1 ≤ w3.heap.size := by have := HN1.out.1; have := HS2.out; have := hb3.size; omega
          have hJ4 := HP.out.old HJ3.out (by have := HN1.out.1; have := HS2.out; omega) hb3
          have HRG4 := Lib.hid (HRG2.out.below hb3)
          have HC4 := Lib.hid (HC2.out.below hb3)
          have HS4 : Hid (r0 < w3.heap.size) := Lib.hid (Nat.lt_of_lt_of_le HS2.out hb3.size)
          obtain ⟨fn, tmps, assign, body, hyl, hR⟩ := HP.out.turn p y w3 hn3 hJ4 ⟨by rw [List.length_append, List.length_singleton]; have := HLT2.out; have := HLEN.out; omega, fun z hz => by
            rcases List.mem_append.1 hz with hz | hz
            · exact sub_all (HH2.out.sub z hz)
            · rw [List.mem_singleton] at hz; rw [hz]; exact sub_all HIN.out⟩
          simp only [encI] at hyl
          have HRR := Lib.hid hR
          clear hR hn3 hJ4 hb3 hdr hdr0 HJ3 HRG2 HS2 HC2
          gi_wp2_with fail
          refine HRR.out.mono ?_
          rintro r w5 ⟨hz5, ht5, ⟨rfl, hj5⟩ | ⟨rfl, hj5⟩⟩
          · have hC5 := HK.out _ _ (HP.out.know hj5)
            have HRG5 : Hid (RangeF w5 b r0 n (mapV A.hd) (fun z => left z && !decide (z = y)) cnt2) := Lib.hid (HRG4.out.kept hz5 (hC5.ob.trans HC4.out.ob.symm) (ht5 r0 HN1.out.1 HRG4.out.iter))
            have HJ5 := Lib.hid hj5
            have HS5 : Hid (r0 < w5.heap.size) := Lib.hid (Nat.lt_of_lt_of_le HS4.out hz5)
            clear hz5 ht5 hj5 hC5 hyl HRR HRG4 HC4 HS4
            gi_wp2_with fail
            gi_roundg cnt2
            case measure => have := HLT2.out; have := HGG.out; omega
            case rel => exact ⟨_, cnt2, p ++ [y], Nat.le_refl _, HRG5, HJ5, HTK, Lib.hid (by rw [List.length_append, List.length_singleton]; have := HLT2.out; have := HLEN.out; omega), HS5⟩
          · have HJ5 := Lib.hid hj5
            clear hz5 ht5 hj5 hyl HRR HRG4 HC4 HS4
            gi_wp2_with fail
            refine bodyPost_ret (results_none rfl _ _ _) rfl ?_
            exact ⟨⟨_, rfl⟩, p ++ [y], .inr ⟨⟨by simp, fun z hz => sub_all (HTK.out.sub z hz)⟩, HJ5.out⟩⟩
end

end Go.Proofs.Ytjjhmfpdbjflmaa
