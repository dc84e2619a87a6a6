/-
  below, and the iterator that it hands out: walked (stage 9).
-/
import Derived.Test.YtbgnbaogclnpgaaYWalk
import Derived.Test.YtbgnbaogclnpgaaYRng
import Derived.Test.YtbgnbaogclnpgaaRegX
import Derived.Sort.LoopGhostIn
import Derived.Shelf.Abstract
import Derived.TacticsInMore
import Derived.LoopNIn
import Derived.LoopIn
import Derived.Deep.DeepCutAuto
namespace Go.Proofs.Ytbgnbaogclnpgaa
open Go.RowKit
set_option linter.unusedVariables false

theorem info_int : (Try.prog.info? 3).map (fun i => (i.zero, i.size, i.bytes)) = some (some (.int .i64 0), 1, 8) := by kernel_rfl

/-- What a closure of below has caught. -/
structure Caught (W : World) (e t id s : Nat) : Prop where
  pt : Lit W e 27 [.pointer (some ⟨t, 0, none⟩)]
  pid : Lit W (e + 1) 3 [.int .i64 id]
  ps : Lit W (e + 2) 5 [.int .u8 s]

theorem Caught.stay {G : Nat → Prop} {W W' : World} {e t id s : Nat} (h : Caught W e t id s) (hs : Stay G W W') (h0 : G e) (h1 : G (e + 1)) (h2 : G (e + 2)) : Caught W' e t id s := ⟨h.pt.stay hs h0, h.pid.stay hs h1, h.ps.stay hs h2⟩
theorem Caught.below {W W' : World} {e t id s : Nat} (h : Caught W e t id s) (hb : Below W.heap.size W W') : Caught W' e t id s := ⟨h.pt.below hb, h.pid.below hb, h.ps.below hb⟩

def itV (e : Nat) : Value := .func (.func 56) #[] #[.pointer (some ⟨e + 1, 0, none⟩), .pointer (some ⟨e, 0, none⟩), .pointer (some ⟨e + 1 + 1, 0, none⟩)]

theorem below_is (w : World) (t id s : Nat) : Calls Try.prog 40 #[.pointer (some ⟨t, 0, none⟩), .int .i64 id, .int .u8 s] w fun x w' => x = .returned (itV w.heap.size) ∧ Caught w' w.heap.size t id s ∧ Below w.heap.size w w' := by
  have l0 := Lit.new w 27 [.pointer (some ⟨t, 0, none⟩)]
  have b0 := Below.allocs w (.cells #[.pointer (some ⟨t, 0, none⟩)] 27)
  have l1 := Lit.new (w.alloc (.cells #[.pointer (some ⟨t, 0, none⟩)] 27)) 3 [.int .i64 id]
  have b1 := Below.allocs (w.alloc (.cells #[.pointer (some ⟨t, 0, none⟩)] 27)) (.cells #[.int .i64 id] 3)
  have l2 := Lit.new ((w.alloc (.cells #[.pointer (some ⟨t, 0, none⟩)] 27)).alloc (.cells #[.int .i64 id] 3)) 5 [.int .u8 s]
  have b2 := Below.allocs ((w.alloc (.cells #[.pointer (some ⟨t, 0, none⟩)] 27)).alloc (.cells #[.int .i64 id] 3)) (.cells #[.int .u8 s] 5)
  have e1 : (w.alloc (.cells #[.pointer (some ⟨t, 0, none⟩)] 27)).heap.size = w.heap.size + 1 := by simp
  have e2 : ((w.alloc (.cells #[.pointer (some ⟨t, 0, none⟩)] 27)).alloc (.cells #[.int .i64 id] 3)).heap.size = w.heap.size + 1 + 1 := by simp
  rw [e1] at l1
  rw [e2] at l2
  have HC : Hid (Caught _ w.heap.size t id s) := Lib.hid ⟨(l0.below b1).below b2, l1.below b2, l2⟩
  have HB := Lib.hid (below_tr (below_tr b0 b1) b2)
  unfold itV
  clear l0 b0 l1 b1 l2 b2 e1 e2
  go_enter Try.func40, Try.ntmps40
  go_wp2_with fail
  go_ret
  exact ⟨rfl, HC.out, HB.out⟩

/-- A row, but for its last ones. -/
theorem RowF.pop {e : TypeId} {m : Nat} {W : World} {a : Addr} {n c : Nat} {f : Nat → List Value} (h : RowF e m W (.slice (some a) n c) n f) {k : Nat} (hk : k ≤ n) : RowF e m W (.slice (some a) k c) k f := by
  obtain ⟨⟨xs, h1, h2⟩, h3⟩ := h
  have hkm : k * m ≤ n * m := Nat.mul_le_mul_right _ hk
  refine ⟨⟨xs.take (k * m), ⟨by rw [List.length_take, h1.1, Nat.min_eq_left hkm], ?_⟩, fun j hj o v hv => ?_⟩, fun j hj => h3 j (by omega)⟩
  · rcases h1.2 with ⟨h0, _⟩ | ⟨g, cap, cur, h0, hb, hg, hnc, hcm, hcs, hx⟩
    · simp at h0
    · simp only [Value.slice.injEq, Option.some.injEq, true_and] at h0
      obtain ⟨rfl, rfl⟩ := h0
      exact .inr ⟨g, c, cur, rfl, hb, hg, by omega, hcm, hcs, by rw [← hx, List.take_take, Nat.min_eq_left hkm]⟩
  · have ho : o < m := by have := (List.getElem?_eq_some_iff.1 hv).1; rwa [h3 j (by omega)] at this
    have hlt : j * m + o < k * m := by
      calc j * m + o < j * m + m := by omega
        _ = (j + 1) * m := by rw [Nat.add_mul, Nat.one_mul]
        _ ≤ k * m := Nat.mul_le_mul_right _ hj
    rw [List.getElem?_take_of_lt hlt]
    exact h2 j (by omega) o v hv

def intR (q : List Nat) (j : Nat) : List Value := [.int .i64 ((q[j]?.getD 0 : Nat) : Int)]

/-- The stack of those that are still to be looked below. -/
structure Stack (n1 : Nat) (W : World) (b c : Nat) (q : List Nat) : Prop where
  row : RowF 3 1 W (.slice (some ⟨b, 0, none⟩) q.length c) q.length (intR q)
  new : n1 ≤ b

theorem Stack.stay {G : Nat → Prop} {n1 : Nat} {W W' : World} {b c : Nat} {q : List Nat} (h : Stack n1 W b c q) (hs : Stay G W W') (hG : G b) : Stack n1 W' b c q :=
  ⟨h.row.stay hs (fun k hk => by simp [Value.ownBlock] at hk; rw [← hk]; exact hG), h.new⟩
theorem Stack.below {n1 : Nat} {W W' : World} {b c : Nat} {q : List Nat} (h : Stack n1 W b c q) (hb : Below W.heap.size W W') : Stack n1 W' b c q := h.stay (G := fun _ => True) (Stay.of_below hb) trivial

theorem Stack.start {n1 : Nat} (W : World) (id : Nat) (hn : n1 ≤ W.heap.size) : Stack n1 (W.alloc (.cells #[.int .i64 id] 3)) W.heap.size 1 [id] := by
  have h := World.ownsRow_lit (base := 0) (e := 3) (size := 1) W #[.int .i64 id] 1 (Nat.zero_le _) (by decide) (by simp)
  refine ⟨⟨⟨_, h, fun j hj o v hv => ?_⟩, fun _ _ => rfl⟩, hn⟩
  obtain rfl : j = 0 := by simpa using hj
  match o, hv with
  | 0, hv => simpa [intR] using hv
  | o + 1, hv => simp [intR] at hv

/-- The last one of a stack, and the rest. -/
theorem Stack.pop {n1 : Nat} {W : World} {b c k : Nat} {q : List Nat} (h : Stack n1 W b c (q ++ [k])) : W.cell? ⟨b, q.length, none⟩ = some (.int .i64 k) ∧ b < W.heap.size ∧ q.length + 1 ≤ c ∧ c ≤ maxLen ∧ Stack n1 W b c q := by
  have hl : (q ++ [k]).length = q.length + 1 := by simp
  have hr := h.row
  rw [hl] at hr
  obtain ⟨b', c', e, hnc, hcm, hb, hat, _⟩ := hr.at (Nat.lt_succ_self q.length)
  simp only [Value.slice.injEq, Option.some.injEq, Addr.mk.injEq, and_true, true_and] at e
  obtain ⟨rfl, rfl⟩ := e
  have h1 := hat q.length (Nat.lt_succ_self _) 0 (.int .i64 k) (by simp [intR])
  rw [Nat.mul_one, Nat.add_zero] at h1
  refine ⟨h1, hb, hnc, hcm, ⟨(hr.pop (Nat.le_succ _)).congr fun j hj => ?_, h.new⟩⟩
  unfold intR
  rw [List.getElem?_append_left hj]

/-- TOne more, by append of a literal. -/
theorem Stack.push {n1 : Nat} {W : World} {b c k : Nat} {q : List Nat} (h : Stack n1 W b c q) (hq : q.length ≤ 100000) (hn : n1 ≤ W.heap.size) :
    ∃ b' c' W', (∀ ty, (Builtin.append_ #[35, 35] ty #[.slice (some ⟨b, 0, none⟩) q.length c, .slice (some ⟨W.heap.size, 0, none⟩) 1 1]).run Try.prog (W.alloc (.cells #[.int .i64 k] 3)) = .ok (.slice (some ⟨b', 0, none⟩) (q ++ [k]).length c') W') ∧ Stack n1 W' b' c' (q ++ [k]) ∧ Below n1 W W' := by
  obtain ⟨i0, hi, hz, hsz, hby⟩ := info_parts info_int
  have hal := Below.allocs W (.cells #[.int .i64 k] 3)
  have hlit := Lit.new W 3 [.int .i64 k]
  obtain ⟨s', W', hrun, hrow, hg, hown⟩ := (h.row.below hal).append (P := Try.prog) 35 35 i0 _ 8 Try.underlying35 hi hz hsz hby rfl (by decide) (by decide) (b := W.heap.size) (k := 1) (c := 1) (q := fun _ => [.int .i64 k])
    (fun j hj o v hv => by
      obtain rfl : j = 0 := by omega
      rw [Nat.zero_mul, Nat.zero_add]
      exact hlit.cell hv) (fun _ _ => rfl) (fun _ _ v hv => by simp at hv; subst hv; rfl) (by omega)
  obtain ⟨b', c', e, _⟩ := hrow.at (j := q.length) (by omega)
  subst e
  have hl : (q ++ [k]).length = q.length + 1 := by simp
  refine ⟨b', c', W', fun ty => by rw [hl]; exact hrun, ⟨?_, ?_⟩, (hal.mono hn).grown hg (Nat.le_trans hn hal.size) (fun k hk => by simp [Value.ownBlock] at hk; rw [← hk]; exact h.new)⟩
  · rw [hl]
    refine hrow.congr fun j hj => ?_
    unfold intR
    by_cases hjq : j < q.length
    · rw [if_pos hjq, List.getElem?_append_left hjq]
    · obtain rfl : j = q.length := by omega
      rw [if_neg hjq]
      simp
  · rcases hown with e | e
    · simp [Value.ownBlock] at e; rw [e]; exact h.new
    · simp [Value.ownBlock] at e; rw [e]; exact Nat.le_succ_of_le hn

theorem stack_cases {q : List Nat} {m : Nat} (h : q.length = m) : (q = [] ∧ m = 0) ∨ ∃ q0 k m0, q = q0 ++ [k] ∧ m = m0 + 1 ∧ q0.length = m0 := by
  rcases List.eq_nil_or_concat q with rfl | ⟨q0, k, rfl⟩
  · exact .inl ⟨rfl, by rw [← h]; rfl⟩
  · exact .inr ⟨q0, k, q0.length, by simp, by rw [← h]; simp, rfl⟩

theorem wr_len {m c : Nat} (h1 : m + 1 ≤ c) (h2 : c ≤ maxLen) : wrap64 (m : Int) = m := wr (by unfold maxLen at h2; omega)

theorem wr0 {n : Int} (h : 0 ≤ n ∧ n ≤ 9223372036854775807) : wrap64 n = n := wr (by omega)

/-- What the iterator leans on between turns. -/
structure Know (t : Nat) (T : Tb) (F : Nat → Prop) (e id s : Nat) (p : List Nat) (W : World) : Prop where
  tab : Tab W t (T.put (id :: p) s) F
  cau : Caught W e t id s

/-- What the iterator asks of a transaction. -/
theorem Know.get {t : Nat} {T : Tb} {F : Nat → Prop} {e id s : Nat} {p : List Nat} {W : World} (h : Know t T F e id s p W) {k : Nat} (hk : 1 ≤ k ∧ k ≤ T.n) (hn : T.n ≤ 1000) :
    ∃ v0 v1 v2, Calls Try.prog 41 #[.pointer (some ⟨t, 0, none⟩), .int .i64 k] W fun x w' => x = .returned (recV v0 v1 v2 (.int .i64 (T.y k)) (.int .i64 (T.old k))) ∧ Below W.heap.size W w' := by
  have hget := get_is' W t (T.put (id :: p) s) F k (by unfold I64; omega) h.tab
  have h1 : (1 : Int) ≤ k ∧ (k : Int) ≤ (T.put (id :: p) s).n := ⟨by omega, by show (k : Int) ≤ T.n; omega⟩
  rw [Tb.g_in (f := (T.put (id :: p) s).y) h1, Tb.g_in (f := (T.put (id :: p) s).old) h1, Int.toNat_natCast] at hget
  exact ⟨_, _, _, hget⟩

theorem Know.st {t : Nat} {T : Tb} {F : Nat → Prop} {e id s : Nat} {p : List Nat} {W : World} (h : Know t T F e id s p W) {k : Nat} (hk : 1 ≤ k ∧ k ≤ T.n) (hn : T.n ≤ 1000) {u : Nat} (hu : (T.put (id :: p) s).st k = u) :
    Calls Try.prog 39 #[.pointer (some ⟨t, 0, none⟩), .int .i64 k] W fun x w' => x = .returned (.int .u8 u) ∧ Below W.heap.size W w' := by
  have hget := st_is W t (T.put (id :: p) s) F k (by unfold I64; omega) h.tab
  have h1 : (1 : Int) ≤ k ∧ (k : Int) ≤ (T.put (id :: p) s).n := ⟨by omega, by show (k : Int) ≤ T.n; omega⟩
  rw [Tb.g_in (f := (T.put (id :: p) s).st) h1, Int.toNat_natCast, hu] at hget
  exact hget

theorem Know.below {t : Nat} {T : Tb} {F : Nat → Prop} {e id s : Nat} {p : List Nat} {W W' : World} (h : Know t T F e id s p W) (hb : Below W.heap.size W W') : Know t T F e id s p W' := ⟨h.tab.below hb, h.cau.below hb⟩

def encI (x : Nat) : Array Value := #[.int .i64 x]

section
attribute [local go_sem] Oper.semAt_some

set_option maxRecDepth 100000 in
set_option maxHeartbeats 4000000 in
theorem iter_is (t : Nat) (T : Tb) (F : Nat → Prop) (e id s l n1 : Nat) (J : List Nat → World → Prop) (hok : T.Ok) (hid : 1 ≤ id ∧ id ≤ T.n) (hn : T.n ≤ 1000) (hs3 : s ≤ 3)
    (hP : PartyF Try.prog encI (fun p => ∀ x ∈ p, 1 ≤ x ∧ x ≤ T.n) l n1 J (Know t T F e id s)) (W : World) (hJ : J [] W) (hnW : n1 ≤ W.heap.size) :
    CallsIn .wide 1 Try.prog 56 #[.func (.yield l) #[] #[], .pointer (some ⟨e + 1, 0, none⟩), .pointer (some ⟨e, 0, none⟩), .pointer (some ⟨e + 1 + 1, 0, none⟩)] W fun x W' => (∃ v, x = .returned v) ∧ ∃ S, Walk T id s S [] ∧ J S W' := by
  have mixed : Try.prog.follows Departure.mixedOrders = true := by kernel_rfl
  have HP := Lib.hid hP
  have HOK := Lib.hid hok
  have K0 := hP.know hJ
  have i0 := K0.cau.pid.cell (o := 0) rfl
  have HJ : Hid (J [] (W.alloc (.cells #[.int .i64 id] 3))) := Lib.hid (hP.old hJ ((Below.allocs W _).mono hnW))
  have HST : Hid (Stack n1 (W.alloc (.cells #[.int .i64 id] 3)) W.heap.size 1 [id]) := Lib.hid (Stack.start W id hnW)
  have HNW : Hid (n1 ≤ (W.alloc (.cells #[.int .i64 id] 3)).heap.size) := Lib.hid (Nat.le_trans hnW (Below.allocs W _).size)
  have hilt := K0.cau.pid.lt
  have hf5 := field5_3
  have hf4 := field5_4
  have HB0 : Hid (2 * left T id s [] + 1 ≤ 2001) := Lib.hid (by have := left_le T id s []; omega)
  clear hP hJ K0 hok
  refine callsIn_of_wp Try.func56 rfl trivial ?_ rfl
  simp only [Try.ntmps56, List.size_toArray, List.length_cons, List.length_nil, Nat.reduceAdd, Nat.reduceSub, Array.replicate_succ, Array.replicate_zero, List.push_toArray, List.append_toArray, List.nil_append, List.cons_append]
  gi_wp2_with fail
  clear i0 hilt
  gi_loopg [5] (2 * left T id s [] + 1) (fun gg s5 wr => ∃ (p q : List Nat) (b c m : Nat), s5 = .slice (some ⟨b, 0, none⟩) m c ∧ Hid (q.length = m) ∧ 2 * left T id s p + m ≤ gg ∧ Hid (2 * left T id s p + m ≤ 2001) ∧ Hid (J p wr) ∧ Hid (Stack n1 wr b c q) ∧ Hid (Walk T id s p q) ∧ Hid (n1 ≤ wr.heap.size))
  case atStart => exact ⟨[], [id], _, 1, 1, rfl, Lib.hid rfl, Nat.le_refl _, HB0, HJ, HST, Lib.hid (Walk.start T id s), HNW⟩
  case round =>
    obtain ⟨p, q, b, c, m, rfl, HM0, hgg, HB1, HJ2, HS2, HW2, HN2⟩ := hrel
    clear HJ HST HNW HB0
    rcases stack_cases HM0.out with ⟨rfl, rfl⟩ | ⟨q0, k, m0, rfl, rfl, hm⟩
    · gi_wp2_with fail
      go_end0
      exact ⟨⟨_, rfl⟩, p, HW2.out, HJ2.out⟩
    · clear HM0
      obtain ⟨c0, blt, hmc, hcm, hS0⟩ := HS2.out.pop
      rw [hm] at c0 hmc
      have hleft := left_le T id s p
      have hwi := HW2.out.pop HOK.out hid
      have hkin := hwi.k_in hid
      have K1 := HP.out.know HJ2.out
      obtain ⟨g0, g1, g2, hget⟩ := K1.get hkin hn
      have p0 := K1.cau.pt.cell (o := 0) rfl
      have plt := K1.cau.pt.lt
      have hm0 : (0 : Int) ≤ m0 := by omega
      have hm1 : (m0 : Int) < (m0 : Int) + 1 := by omega
      have hmcz : (m0 : Int) ≤ c := by omega
      have HGET := Lib.hid hget
      have HS1 := Lib.hid hS0
      have HWI := Lib.hid hwi
      have HM := Lib.hid hm
      have hw1 : wrap64 (m0 : Int) = m0 := wr_len hmc hcm
      clear hget hS0 hwi K1 hm HS2 HW2 hcm
      gi_wp2_with fail
      refine ⟨trivial, (callsIn_wide.2 HGET.out).mono ?_⟩
      rintro x w1 ⟨rfl, hb1⟩
      have HJ3 := Lib.hid (HP.out.old HJ2.out (hb1.mono HN2.out))
      have HS3 := Lib.hid (HS1.out.below hb1)
      have HN3 := Lib.hid (Nat.le_trans HN2.out hb1.size)
      clear c0 blt p0 plt hb1 HGET HJ2 HS1 HN2
      gi_wp2_with fail
      clear hw1
      obtain ⟨M, hM⟩ : ∃ M, 2 * left T id s p + m0 = M := ⟨_, rfl⟩
      have hMk : M + 1 ≤ gk := by omega
      have HMB : Hid (M ≤ 2001) := Lib.hid (by have := HB1.out; omega)
      clear HB1
      have HM2 : Hid (2 * left T id s p + q0.length ≤ M) := Lib.hid (by rw [HM.out]; omega)
      gi_loopg [5, 7] (T.y k) (fun gg s5 s7 wr => ∃ (p q : List Nat) (b c cc m : Nat), s5 = .slice (some ⟨b, 0, none⟩) m c ∧ s7 = .int .i64 cc ∧ Hid (q.length = m) ∧ cc ≤ gg ∧ Hid (2 * left T id s p + q.length ≤ M) ∧ Hid (J p wr) ∧ Hid (Stack n1 wr b c q) ∧ Hid (WalkI T id s p q k cc) ∧ Hid (n1 ≤ wr.heap.size))
      case atStart => exact ⟨p, q0, b, c, T.y k, m0, rfl, rfl, HM, Nat.le_refl _, HM2, HJ3, HS3, HWI, HN3⟩
      case round =>
        obtain ⟨p2, q2, b2, c2, cc, m2, rfl, rfl, HQ2, hcg, HMM, HJ4, HS4, HWI2, HN4⟩ := hrel
        clear HJ3 HS3 HN3 HWI HM2 HM hmc hM hleft hkin hm0 hm1 hmcz hgg
        by_cases hc0 : cc = 0
        · subst hc0
          gi_wp2_with fail
          gi_roundg (2 * left T id s p2 + m2)
          case measure => have := HMM.out; have := HQ2.out; omega
          case rel => exact ⟨p2, q2, b2, c2, m2, rfl, HQ2, Nat.le_refl _, Lib.hid (by have := HMM.out; have := HQ2.out; have := HMB.out; omega), HJ4, HS4, Lib.hid HWI2.out.over, HN4⟩
        · have hcz : ¬ (cc : Int) = 0 := by omega
          have hcur := HWI2.out.cur hc0
          have hlf := left_le T id s p2
          have hcc : 1 ≤ cc ∧ cc ≤ T.n := ⟨by omega, hcur.1⟩
          obtain ⟨u, hu⟩ : ∃ u, (T.put (id :: p2) s).st cc = u := ⟨_, rfl⟩
          have hold : T.old cc < cc := by
            by_cases ho : T.old cc = 0
            · omega
            · exact (HOK.out.old_is cc hcc.1 hcc.2 ho).1
          have KW := HP.out.know HJ4.out
          have hKc := fun (W' : World) (hb : Below wr.heap.size wr W') => KW.cau.below hb
          have HKC := Lib.hid hKc
          have HST := Lib.hid (fun (W' : World) (hb : Below wr.heap.size wr W') => (KW.below hb).st hcc hn hu)
          obtain ⟨z, hz⟩ : ∃ z, decide (s ≤ u) = z := ⟨_, rfl⟩
          have HU := Lib.hid hu
          have HL := Lib.hid hlf
          have hdr := below_drw wr
          clear KW hKc hu hlf hcur
          gi_wp2_with fail
          refine wpIn_wide.2 ?_
          refine RX.wp_region_plan (fun w w' => Below w.heap.size w w') [.it (.pointer (some ⟨t, 0, none⟩)), .it (.int .i64 cc), .it (.int .u8 u), .it (.int .u8 s), .it (.bool z)] (by kernel_rfl) (by kernel_rfl) (fun _ => Below.refl _ _) (fun _ _ _ => below_tr) ?_
          refine RX.seqP_value (fun _ => Below.refl _ _) _ (by first | rfl | simp) (fun w' hw' hctx => ?_) ?_
          · have p0 := (HKC.out w' (below_tr hdr hw')).pt.cell (o := 0) rfl
            go_simp
            try first | with_reducible rfl | simp
          simp only [Act.put, List.setIfInBounds_toArray, List.set_cons_zero, List.set_cons_succ]
          refine RX.seqP_value (fun _ => Below.refl _ _) _ (by first | rfl | simp) (fun w' hw' hctx => ?_) ?_
          · go_simp
            try first | with_reducible rfl | simp
          simp only [Act.put, List.setIfInBounds_toArray, List.set_cons_zero, List.set_cons_succ]
          refine RX.seqP_call 39 #[.pointer (some ⟨t, 0, none⟩), .int .i64 cc] (.int .u8 u) (by first | rfl | simp) (fun w' hw' hctx => ?_) (fun w' hw' hctx => (HST.out w' (below_tr hdr hw')).mono fun e w2 ⟨he, h2⟩ => ⟨he, h2⟩) ?_
          · go_simp
          simp only [Act.put, List.setIfInBounds_toArray, List.set_cons_zero, List.set_cons_succ]
          refine RX.seqP_value (fun _ => Below.refl _ _) _ (by first | rfl | simp) (fun w' hw' hctx => ?_) ?_
          · have p0 := (HKC.out w' (below_tr hdr hw')).ps.cell (o := 0) rfl
            go_simp
            try first | with_reducible rfl | simp
          simp only [Act.put, List.setIfInBounds_toArray, List.set_cons_zero, List.set_cons_succ]
          refine RX.seqP_value (fun _ => Below.refl _ _) _ (by first | rfl | simp) (fun w' hw' hctx => ?_) ?_
          · go_simp
            try exact hz
          simp only [Act.put, List.setIfInBounds_toArray, List.set_cons_zero, List.set_cons_succ]
          refine RX.seqP_nil (fun v3 hR hctx _ => ?_)
          have hv3 := below_tr hdr hR
          have HJ5 := Lib.hid (HP.out.old HJ4.out (hv3.mono HN4.out))
          have HS5 := Lib.hid (HS4.out.below hv3)
          have HN5 := Lib.hid (Nat.le_trans HN4.out hv3.size)
          clear hctx hR hv3 hdr HST HKC HJ4 HS4 HN4
          cases z with
          | true =>
            have hsu : s ≤ u := of_decide_eq_true hz
            have hws := HWI2.out.skip HOK.out hid hc0 (by rw [HU.out]; exact hsu)
            have HWS := Lib.hid hws
            have K5 := HP.out.know HJ5.out
            have p0 := K5.cau.pt.cell (o := 0) rfl
            have plt := K5.cau.pt.lt
            obtain ⟨g0, g1, g2, hget⟩ := K5.get hcc hn
            have HGET := Lib.hid hget
            clear hws K5 hget hz HU
            gi_wp2_with fail
            refine ⟨trivial, (callsIn_wide.2 HGET.out).mono ?_⟩
            rintro x w4 ⟨rfl, hb4⟩
            have HJ6 := Lib.hid (HP.out.old HJ5.out (hb4.mono HN5.out))
            have HS6 := Lib.hid (HS5.out.below hb4)
            have HN6 := Lib.hid (Nat.le_trans HN5.out hb4.size)
            clear p0 plt hb4 HGET HJ5 HS5 HN5
            gi_wp2_with fail
            gi_roundg (T.old cc)
            case measure => omega
            case rel => exact ⟨p2, q2, b2, c2, T.old cc, m2, rfl, rfl, HQ2, Nat.le_refl _, HMM, HJ6, HS6, HWS, HN6⟩
          | false =>
            have hsu : u < s := Nat.lt_of_not_le (of_decide_eq_false hz)
            obtain ⟨hwt, _, _, hts, htm⟩ := HWI2.out.take HOK.out hid hc0 (by rw [HU.out]; exact hsu)
            have hlm := left_less hcc.1 hcc.2 hts htm
            have HWS := Lib.hid hwt
            have hpall : ∀ x ∈ p2 ++ [cc], 1 ≤ x ∧ x ≤ T.n := fun x hx => ⟨(hwt.inp x hx).1, (hwt.inp x hx).2.1⟩
            obtain ⟨fn, tmps, assign, body, hy, hR⟩ := HP.out.turn p2 cc v3 HN5.out HJ5.out hpall
            have HMN : Hid (2 * left T id s (p2 ++ [cc]) + (q2 ++ [cc]).length ≤ M) := Lib.hid (by rw [List.length_append, List.length_singleton]; have := HMM.out; omega)
            have hq5 : q2.length ≤ 100000 := by have := HMM.out; have := HMB.out; omega
            have HQ5 := Lib.hid hq5
            simp only [encI] at hy
            clear hwt hts htm hlm hpall hsu hz HU HMM HL hq5
            gi_wp2_with fail
            refine hR.mono ?_
            rintro x w4 ⟨rfl, hJ6, ht6⟩
            have hS6 := HS5.out.stay (ht6.stay (G := fun k => n1 ≤ k) (fun k hk hx => by omega)) HS5.out.new
            have hN6 := Nat.le_trans HN5.out ht6.size
            obtain ⟨b7, c7, w7, hrun, hS7, hb7⟩ := hS6.push (k := cc) HQ5.out hN6
            obtain ⟨m7, hm7⟩ : ∃ m7, (q2 ++ [cc]).length = m7 := ⟨_, rfl⟩
            rw [HQ2.out, hm7] at hrun
            have hJ7 := HP.out.old hJ6 hb7
            have K7 := HP.out.know hJ7
            have p0 := K7.cau.pt.cell (o := 0) rfl
            have plt := K7.cau.pt.lt
            have HN7 := Lib.hid (Nat.le_trans hN6 hb7.size)
            have HJ7 := Lib.hid hJ7
            have HS7 := Lib.hid hS7
            have HM7 := Lib.hid hm7
            have HRUN := Lib.hid (hrun 35)
            obtain ⟨g0, g1, g2, hget⟩ := K7.get hcc hn
            have HGET := Lib.hid hget
            clear hy hR hJ6 ht6 hS6 hN6 hrun hS7 hb7 hm7 hJ7 K7 hget HJ5 HS5 HN5 HQ5
            gi_wp2_with (gi_at_builtin; refine append_step _ rfl _ _ 35 rfl _ _ _ _ rfl rfl HRUN.out ?_)
            refine ⟨trivial, (callsIn_wide.2 HGET.out).mono ?_⟩
            rintro x w8 ⟨rfl, hb8⟩
            have HJ8 := Lib.hid (HP.out.old HJ7.out (hb8.mono HN7.out))
            have HS8 := Lib.hid (HS7.out.below hb8)
            have HN8 := Lib.hid (Nat.le_trans HN7.out hb8.size)
            clear p0 plt hb8 HGET HJ7 HS7 HN7 HRUN
            gi_wp2_with fail
            gi_roundg (T.old cc)
            case measure => omega
            case rel => exact ⟨p2 ++ [cc], q2 ++ [cc], b7, c7, T.old cc, m7, rfl, rfl, HM7, Nat.le_refl _, HMN, HJ8, HS8, HWS, HN8⟩
end

end Go.Proofs.Ytbgnbaogclnpgaa
