/-
  put: an expression with Lits in the place of Cols.
-/
import Derived.Test.YtflclkmhdngmaaaEPutB
import Derived.Deep.LoopGhost
namespace Go.Proofs.Ytflclkmhdngmaaa
open Go.RowKit

theorem infoE : (Try.prog.info? 26).map (fun i => (i.zero, i.size, i.bytes)) = some (some (.agg #[.int .u8 0, .int .u8 0, .int .i64 0, .int .i64 0, .string ⟨#[]⟩, .int .i64 0, .slice none 0 0]), 7, 80) := by kernel_rfl

/-- What put answers. -/
def PutC (r : Rw) (e : Ex) (w : World) (x : Ending) (w' : World) : Prop :=
  ∃ e' : Ex, x = .returned (.agg #[.int .u8 e'.op, .int .u8 e'.v.k, .int .i64 e'.v.n, .int .i64 e'.v.u, .string e'.v.t, .int .i64 e'.m, .slice e'.a e'.len e'.cap]) ∧ Below w.heap.size w w' ∧ e'.In w' ∧ PutOf r e e' ∧ e'.New w.heap.size

/-- What is made by append, written out. -/
theorem own_form {W : World} {B k : Nat} {v : Value} {q : Nat → Ex} (h : W.ownsRow B 26 7 v k (cellsL q k)) :
    ∃ (a : Option Addr) (c : Nat), v = .slice a k c ∧ k ≤ c ∧ c ≤ maxLen ∧ (0 < k → ∃ b, a = some ⟨b, 0, none⟩ ∧ B ≤ b ∧ ∀ i, i < k → AtE W b (i * 7) (q i)) := by
  rcases h.2 with ⟨rfl, rfl⟩ | ⟨b, cap, cur, rfl, hB, hh, hkc, hcm, hcs, htake⟩
  · exact ⟨none, 0, rfl, Nat.le_refl _, Nat.zero_le _, fun h => absurd h (Nat.not_lt_zero _)⟩
  · refine ⟨some ⟨b, 0, none⟩, cap, rfl, hkc, hcm, fun _ => ⟨b, rfl, hB, fun i hi => ?_⟩⟩
    have hlt := (Array.getElem?_eq_some_iff.1 hh).1
    have hc : ∀ j, j < 7 → W.cell? ⟨b, i * 7 + j, none⟩ = (cellsE (q i))[j]? := fun j hj => by
      rw [← cellsL_get q hi hj, ← htake, List.getElem?_take, if_pos (by omega)]
      simp [World.cell?, hh]
    exact ⟨hc 0 (by omega), hc 1 (by omega), hc 2 (by omega), hc 3 (by omega), hc 4 (by omega), hc 5 (by omega), hc 6 (by omega), hlt⟩

/-- What holds at the head of put's loop. -/
def LoopP (w : World) (r : Rw) (e : Ex) (g gk : Nat) (v i : Value) (wr : World) : Prop :=
  ∃ (k : Nat) (q : Nat → Ex), k ≤ e.len ∧ gk = e.len - k ∧ i = .int .i64 k ∧ wr.ownsRow (g + 1 + 1) 26 7 v k (cellsL q k) ∧
    (∀ i, i < k → (q i).In wr ∧ PutOf r (e.kid i) (q i) ∧ (q i).New (g + 1 + 1) ∧ ∀ b, v.ownBlock = some b → (q i).Av b) ∧ Below w.heap.size w wr ∧ BoxE wr g e ∧ BoxE wr (g + 1) .nil ∧ SoftE wr (g + 1)

set_option maxRecDepth 100000 in
set_option maxHeartbeats 4000000 in
theorem put_col (r : Rw) (e : Ex) (w : World) (hin : e.In w) (hr : r.In w) (k : Nat) (ho : e.op = 2) (hm : e.m = (k : Int)) (hk : k < r.len) (hv : mayV (r.vals k) = true) :
    Calls Try.prog 23 #[.agg #[.int .u8 e.op, .int .u8 e.v.k, .int .i64 e.v.n, .int .i64 e.v.u, .string e.v.t, .int .i64 e.m, .slice e.a e.len e.cap], .slice r.a r.len r.cap] w (PutC r e w) := by
  have hpo : PutOf r e (mkLit (r.vals k)) := putOf_iff.2 (.inl ⟨by unfold isC; rw [hm]; simp only [Bool.and_eq_true, decide_eq_true_eq]; exact ⟨ho, by omega, by omega, by simpa using hv⟩, by rw [hm]; exact Same.refl _⟩)
  have HPO := Lib.hid hpo
  have HWF := Lib.hid (hr.wf k hk)
  have o2 : (e.op == 2) = true := by simpa using ho
  obtain ⟨b, o, hra, hat⟩ := hr.at' (by omega)
  obtain ⟨W, g, hg, hW, B, R, S, hb, hs⟩ := boxEP w e
  have HB := Lib.hid hb
  have HG := Lib.hid hg
  have HE := Lib.hid B
  have HR := Lib.hid R
  have HS := Lib.hid S
  have HIN := Lib.hid hin
  have HRIN := Lib.hid hr
  have hat' := (hat k hk).below hb
  have hl : r.len ≤ 9223372036854775807 := by have := hr.lc; have := hr.cm; unfold maxLen at this; omega
  obtain ⟨v, hvv⟩ : ∃ v, r.vals k = v := ⟨_, rfl⟩
  rw [hvv] at hat' HPO HWF hv
  have HV := Lib.hid hv
  obtain ⟨a0, a1, a2, a3, a4⟩ := hat'
  obtain ⟨e0, e1, e2, e3, e4, e5, e6, e7⟩ := B
  rw [hm] at e5
  have HRA := Lib.hid hra
  have h0 : (0 : Int) ≤ (k : Int) := by omega
  have HM := Lib.hid hm
  clear hb hs hin hr R S hat hvv hv hm ho hpo
  clear hra
  rw [HRA.out]
  go_enter Try.func23, Try.ntmps23
  go_wp2_with fail
  refine (mayv_is v true HV.out _).mono ?_
  rintro _ U ⟨rfl, hU⟩
  have ha4 := a4
  have hWs : W.heap.size ≤ U.heap.size := hU.size
  have A' : AtV U b (o + k * 4) v := AtV.below ⟨a0, a1, a2, a3, a4⟩ hU
  obtain ⟨u0, u1, u2, u3, u4⟩ := A'
  have E' : BoxE U g e := HE.out.below hU
  obtain ⟨d0, d1, d2, d3, d4, d5, d6, d7⟩ := E'
  have HU := Lib.hid hU
  rw [HM.out] at d5
  clear hU a0 a1 a2 a3 a4 e0 e1 e2 e3 e4 e5 e6 e7
  go_wp2_with fail
  refine (lit_is v.k v.n v.u v.t _).mono ?_
  rintro _ U2 ⟨rfl, hU2⟩
  have hUU := below_tr HU.out hU2
  have HBU := Lib.hid (below_tr HB.out hUU)
  have HRU := Lib.hid (HR.out.below hUU)
  obtain ⟨r0, r1, r2, r3, r4, r5, r6, r7⟩ := HRU.out
  obtain ⟨s0, s1, s2, s3, s4, s5, s6, s7⟩ := HS.out.below hUU
  clear hU2 hUU u0 u1 u2 u3 u4 d0 d1 d2 d3 d4 d5 d6 d7
  go_wp2_with fail
  have hwz := below_put7 HBU.out (by have := HG.out; omega : w.heap.size ≤ g + 1) (mkLit v)
  obtain ⟨q0, q1, q2, q3, q4, q5, q6, q7⟩ := boxE_put7 HRU.out (mkLit v)
  refine bodyPost_ret (w := put7 U2 (g + 1) (mkLit v)) (v := .agg #[.int .u8 (mkLit v).op, .int .u8 (mkLit v).v.k, .int .i64 (mkLit v).v.n, .int .i64 (mkLit v).v.u, .string (mkLit v).v.t, .int .i64 (mkLit v).m, .slice (mkLit v).a (mkLit v).len (mkLit v).cap]) (by simp [results, Try.results23, go_sem, q0, q1, q2, q3, q4, q5, q6]) rfl ⟨mkLit v, rfl, hwz, in_lit HWF.out _, HPO.out, Ex.new_iff.2 ⟨fun h => absurd h (Nat.not_lt_zero _), fun i h => absurd h (Nat.not_lt_zero _)⟩⟩

set_option maxRecDepth 100000 in
set_option maxHeartbeats 8000000 in
theorem put_op (r : Rw) (e : Ex) (hsz : e.sz ≤ 500) (ih : ∀ i, i < e.len → ∀ w, (e.kid i).In w → r.In w → Calls Try.prog 23 #[.agg #[.int .u8 (e.kid i).op, .int .u8 (e.kid i).v.k, .int .i64 (e.kid i).v.n, .int .i64 (e.kid i).v.u, .string (e.kid i).v.t, .int .i64 (e.kid i).m, .slice (e.kid i).a (e.kid i).len (e.kid i).cap], .slice r.a r.len r.cap] w (PutC r (e.kid i) w)) (w : World) (hin : e.In w) (hr : r.In w) (hc : isC r e = false) (ho : e.op ≠ 2) :
    Calls Try.prog 23 #[.agg #[.int .u8 e.op, .int .u8 e.v.k, .int .i64 e.v.n, .int .i64 e.v.u, .string e.v.t, .int .i64 e.m, .slice e.a e.len e.cap], .slice r.a r.len r.cap] w (PutC r e w) := by
  have HC := Lib.hid hc
  have IH := Lib.hid ih
  have HSZ := Lib.hid hsz
  clear hc ih hsz
  have o2 : (e.op == 2) = false := by simpa using ho
  obtain ⟨W, g, hg, hW, B, R, S, hb, hs⟩ := boxEP w e
  have HB := Lib.hid hb
  have HG := Lib.hid hg
  have HE := Lib.hid B
  have HR := Lib.hid R
  have HS := Lib.hid S
  have HIN := Lib.hid hin
  have HRIN := Lib.hid hr
  obtain ⟨e0, e1, e2, e3, e4, e5, e6, e7⟩ := B
  clear hb hs hin hr R S ho
  go_enter Try.func23, Try.ntmps23
  go_wp2_with fail
  go_loopg [5, 6] e.len (fun gk v i wr => LoopP w r e g gk v i wr)
  case atStart => exact ⟨0, fun _ => .nil, Nat.zero_le _, by omega, rfl, World.ownsRow_nil _ _ _ _, fun i hi => absurd hi (Nat.not_lt_zero _), HB.out, HE.out, HR.out, HS.out⟩
  case round =>
    obtain ⟨k, q, hk, hgk, rfl, hown, hq, hb, hbox, hbr, hbs⟩ := hrel
    have hm : e.len ≤ 500 := Nat.le_trans (len_le_sz e) HSZ.out
    have HB := Lib.hid hb
    have HE := Lib.hid hbox
    have HR := Lib.hid hbr
    have HS := Lib.hid hbs
    have HQ := Lib.hid hq
    have HOWN := Lib.hid hown
    have HGK := Lib.hid (And.intro hgk hk)
    obtain ⟨e0, e1, e2, e3, e4, e5, e6, e7⟩ := hbox
    by_cases hlt : k < e.len
    · obtain ⟨b, o, hea, hat⟩ := HIN.out.args (by omega)
      have hat' := (hat k hlt).below HB.out
      have HI := Lib.hid (IH.out k hlt wr ((HIN.out.kid' hlt).below HB.out) (HRIN.out.below HB.out))
      obtain ⟨p, hp⟩ : ∃ p, e.kid k = p := ⟨_, rfl⟩
      rw [hp] at hat' HI
      have HP := Lib.hid hp
      rw [hea] at e6
      obtain ⟨a0, a1, a2, a3, a4, a5, a6, a7⟩ := hat'
      clear hea hat hp hgk hk hown hq hb hbr hbs
      go_wp2_with fail
      refine HI.out.mono ?_
      rintro _ U ⟨e', rfl, hU, hin', hpo, hnew⟩
      obtain ⟨i0, hi, hz0, hz1, hz2⟩ := info_parts infoE
      have hU1 := Below.allocs U (.cells #[.int .u8 e'.op, .int .u8 e'.v.k, .int .i64 e'.v.n, .int .i64 e'.v.u, .string e'.v.t, .int .i64 e'.m, .slice e'.a e'.len e'.cap] 26)
      have hU2 := below_tr hU hU1
      have HU2 := Lib.hid hU2
      have HN := Lib.hid (And.intro (hin'.below hU1) (And.intro hpo hnew))
      have hownU := (own_below HOWN.out hU).alloc (.cells #[.int .u8 e'.op, .int .u8 e'.v.k, .int .i64 e'.v.n, .int .i64 e'.v.u, .string e'.v.t, .int .i64 e'.m, .slice e'.a e'.len e'.cap] 26)
      have hsz : g + 1 + 1 ≤ (U.alloc (.cells #[.int .u8 e'.op, .int .u8 e'.v.k, .int .i64 e'.v.n, .int .i64 e'.v.u, .string e'.v.t, .int .i64 e'.m, .slice e'.a e'.len e'.cap] 26)).heap.size := by have := HS.out.lt; have := hU2.size; omega
      have hbytes : (k + 1) * 80 ≤ 140737488355328 := by omega
      have hlen : k + 1 ≤ maxLen := by unfold maxLen; omega
      clear a0 a1 a2 a3 a4 a5 a6 a7 e0 e1 e2 e3 e4 e5 e6 e7 hU hU1 hU2 hin' hpo hnew HI
      go_wp2_with (at_builtin; refine wpList_append_own_at _ rfl _ _ 24 rfl (g + 1 + 1) 26 i0 _ 7 80 Try.underlying24 hi hz0 hz1 hz2 rfl (by decide) u5 k (cellsL q k) rfl hownU ⟨U.heap.size, 0, none⟩ 1 1 (cellsE e') rfl rfl (news_at (BoxE.new U e')) (cells_one e') hlen hbytes hsz ?_; intro v' w3 hown' hgrow hnil hblk)
      go_roundg (e.len - (k + 1))
      case measure => have := HGK.out.1; omega
      case rel =>
        have hU2 := HU2.out
        obtain ⟨hin', hpo, hnew⟩ := HN.out
        have hob := HOWN.out.lt
        have hsz2 := HS.out.lt
        have hlt3 : ∀ b, Value.ownBlock u5 = some b → g + 1 + 1 ≤ b ∧ b < wr.heap.size := hob
        have hne : ∀ j, j < g + 1 + 1 → Value.ownBlock u5 ≠ some j := fun j hj h => by have := (hlt3 j h).1; omega
        have hav : ∀ x : Ex, x.In (U.alloc (.cells #[.int .u8 e'.op, .int .u8 e'.v.k, .int .i64 e'.v.n, .int .i64 e'.v.u, .string e'.v.t, .int .i64 e'.m, .slice e'.a e'.len e'.cap] 26)) → (∀ b, Value.ownBlock u5 = some b → x.Av b) → ∀ b, Value.ownBlock v' = some b → x.Av b := fun x hx h b hb => by
          rcases hblk with h2 | h2
          · exact h b (by rw [← h2]; exact hb)
          · rw [h2] at hb
            cases hb
            exact hx.av (Nat.le_refl _)
        refine ⟨k + 1, fun i => if i = k then e' else q i, by omega, rfl, by go_num, ?_, fun i hi => ?_, ?_, ?_, ?_, ?_⟩
        · have hL : cellsL (fun i => if i = k then e' else q i) (k + 1) = cellsL q k ++ cellsE e' := by
            simp only [cellsL, if_true]
            rw [cellsL_congr (q' := q) (fun i hi => by rw [if_neg (by omega)])]
          rw [hL]
          exact hown'
        · dsimp only
          by_cases hik : i = k
          · subst hik
            have hav0 : ∀ b, Value.ownBlock u5 = some b → e'.Av b := fun b hb => hnew.av (by have := (hlt3 b hb).2; omega)
            rw [if_pos rfl]
            exact ⟨hin'.grown hgrow hav0, by rw [HP.out]; exact hpo, hnew.mono (by omega), hav e' hin' hav0⟩
          · obtain ⟨q1, q2, q3, q4⟩ := HQ.out i (by omega)
            have q1' := q1.below hU2
            rw [if_neg hik]
            exact ⟨q1'.grown hgrow q4, q2, q3, hav _ q1' q4⟩
        · refine (HB.out.trans (hU2.mono HB.out.size)).grown hgrow (by have := HB.out.size; have := hU2.size; omega) (fun j hj => ?_)
          have := (hlt3 j hj).1
          have := HG.out
          omega
        · exact (HE.out.below hU2).grown hgrow (hne g (by omega))
        · exact (HR.out.below hU2).grown hgrow (hne (g + 1) (by omega))
        · exact (HS.out.below hU2).grown hgrow (hne (g + 1) (by omega))
    · obtain ⟨a', c', hv', hkc, hcm, hat⟩ := own_form HOWN.out
      have hke : k = e.len := by omega
      have HKE := Lib.hid hke
      have hlt1 : decide (k < e.len) = false := by simpa using hlt
      have HF := Lib.hid (And.intro hkc (And.intro hcm hat))
      have HV := Lib.hid hv'
      rw [hv']
      obtain ⟨r0, r1, r2, r3, r4, r5, r6, r7⟩ := hbr
      obtain ⟨s0, s1, s2, s3, s4, s5, s6, s7⟩ := hbs
      clear hkc hcm hat hgk hk hown hq hb hke hv' hlt
      go_wp2_with fail
      obtain ⟨hkc, hcm, hat⟩ := HF.out
      have hwf := HIN.out.wf'
      have hwz := below_put7 HB.out (by have := HG.out; omega : w.heap.size ≤ g + 1) (.node e.op e.v e.m a' k c' q)
      obtain ⟨q0, q1, q2, q3, q4, q5, q6, q7⟩ := boxE_put7 HR.out (.node e.op e.v e.m a' k c' q)
      have hav : ∀ i, i < k → (q i).Av (g + 1) := fun i hi => (HQ.out i hi).2.2.1.av (by omega)
      refine bodyPost_ret (w := put7 wr (g + 1) (.node e.op e.v e.m a' k c' q)) (v := .agg #[.int .u8 (Ex.node e.op e.v e.m a' k c' q).op, .int .u8 (Ex.node e.op e.v e.m a' k c' q).v.k, .int .i64 (Ex.node e.op e.v e.m a' k c' q).v.n, .int .i64 (Ex.node e.op e.v e.m a' k c' q).v.u, .string (Ex.node e.op e.v e.m a' k c' q).v.t, .int .i64 (Ex.node e.op e.v e.m a' k c' q).m, .slice (Ex.node e.op e.v e.m a' k c' q).a (Ex.node e.op e.v e.m a' k c' q).len (Ex.node e.op e.v e.m a' k c' q).cap]) (by simp [results, Try.results23, go_sem, q0, q1, q2, q3, q4, q5, q6]) rfl ⟨.node e.op e.v e.m a' k c' q, rfl, hwz, Ex.in_iff.2 ⟨⟨hwf.op0, hwf.op1, hwf.m, hwf.k0, hwf.k1, hwf.n, hwf.u, hwf.t, hkc, hcm⟩, fun hl => ?_, fun i hi => (HQ.out i hi).1.put7 (hav i hi)⟩, putOf_iff.2 (.inr ⟨HC.out, rfl, rfl, rfl, HKE.out, fun i hi => (HQ.out i (by rw [HKE.out]; exact hi)).2.1⟩), Ex.new_iff.2 ⟨fun hl b o hb => ?_, fun i hi => (HQ.out i hi).2.2.1.mono (by have := HG.out; omega)⟩⟩
      · obtain ⟨b, ha, hB, hx⟩ := hat hl
        exact ⟨b, 0, ha, fun i hi => by rw [Nat.zero_add]; exact (hx i hi).put7 (by omega)⟩
      · obtain ⟨b', ha, hB, hx⟩ := hat hl
        have hb' : a' = some ⟨b, o, none⟩ := hb
        rw [ha] at hb'
        cases hb'
        have := HG.out
        omega

set_option maxRecDepth 100000 in
set_option maxHeartbeats 8000000 in
theorem put_lo (r : Rw) (e : Ex) (hsz : e.sz ≤ 500) (ih : ∀ i, i < e.len → ∀ w, (e.kid i).In w → r.In w → Calls Try.prog 23 #[.agg #[.int .u8 (e.kid i).op, .int .u8 (e.kid i).v.k, .int .i64 (e.kid i).v.n, .int .i64 (e.kid i).v.u, .string (e.kid i).v.t, .int .i64 (e.kid i).m, .slice (e.kid i).a (e.kid i).len (e.kid i).cap], .slice r.a r.len r.cap] w (PutC r (e.kid i) w)) (w : World) (hin : e.In w) (hr : r.In w) (hc : isC r e = false) (ho : e.op = 2) (hm : e.m < 0) :
    Calls Try.prog 23 #[.agg #[.int .u8 e.op, .int .u8 e.v.k, .int .i64 e.v.n, .int .i64 e.v.u, .string e.v.t, .int .i64 e.m, .slice e.a e.len e.cap], .slice r.a r.len r.cap] w (PutC r e w) := by
  have HC := Lib.hid hc
  have IH := Lib.hid ih
  have HSZ := Lib.hid hsz
  clear hc ih hsz
  have o2 : (e.op == 2) = true := by simpa using ho
  have m2 : decide (0 ≤ e.m) = false := by simpa using hm
  obtain ⟨W, g, hg, hW, B, R, S, hb, hs⟩ := boxEP w e
  have HB := Lib.hid hb
  have HG := Lib.hid hg
  have HE := Lib.hid B
  have HR := Lib.hid R
  have HS := Lib.hid S
  have HIN := Lib.hid hin
  have HRIN := Lib.hid hr
  obtain ⟨e0, e1, e2, e3, e4, e5, e6, e7⟩ := B
  clear hb hs hin hr R S ho hm
  go_enter Try.func23, Try.ntmps23
  go_wp2_with fail
  go_loopg [5, 6] e.len (fun gk v i wr => LoopP w r e g gk v i wr)
  case atStart => exact ⟨0, fun _ => .nil, Nat.zero_le _, by omega, rfl, World.ownsRow_nil _ _ _ _, fun i hi => absurd hi (Nat.not_lt_zero _), HB.out, HE.out, HR.out, HS.out⟩
  case round =>
    obtain ⟨k, q, hk, hgk, rfl, hown, hq, hb, hbox, hbr, hbs⟩ := hrel
    have hm : e.len ≤ 500 := Nat.le_trans (len_le_sz e) HSZ.out
    have HB := Lib.hid hb
    have HE := Lib.hid hbox
    have HR := Lib.hid hbr
    have HS := Lib.hid hbs
    have HQ := Lib.hid hq
    have HOWN := Lib.hid hown
    have HGK := Lib.hid (And.intro hgk hk)
    obtain ⟨e0, e1, e2, e3, e4, e5, e6, e7⟩ := hbox
    by_cases hlt : k < e.len
    · obtain ⟨b, o, hea, hat⟩ := HIN.out.args (by omega)
      have hat' := (hat k hlt).below HB.out
      have HI := Lib.hid (IH.out k hlt wr ((HIN.out.kid' hlt).below HB.out) (HRIN.out.below HB.out))
      obtain ⟨p, hp⟩ : ∃ p, e.kid k = p := ⟨_, rfl⟩
      rw [hp] at hat' HI
      have HP := Lib.hid hp
      rw [hea] at e6
      obtain ⟨a0, a1, a2, a3, a4, a5, a6, a7⟩ := hat'
      clear hea hat hp hgk hk hown hq hb hbr hbs
      go_wp2_with fail
      refine HI.out.mono ?_
      rintro _ U ⟨e', rfl, hU, hin', hpo, hnew⟩
      obtain ⟨i0, hi, hz0, hz1, hz2⟩ := info_parts infoE
      have hU1 := Below.allocs U (.cells #[.int .u8 e'.op, .int .u8 e'.v.k, .int .i64 e'.v.n, .int .i64 e'.v.u, .string e'.v.t, .int .i64 e'.m, .slice e'.a e'.len e'.cap] 26)
      have hU2 := below_tr hU hU1
      have HU2 := Lib.hid hU2
      have HN := Lib.hid (And.intro (hin'.below hU1) (And.intro hpo hnew))
      have hownU := (own_below HOWN.out hU).alloc (.cells #[.int .u8 e'.op, .int .u8 e'.v.k, .int .i64 e'.v.n, .int .i64 e'.v.u, .string e'.v.t, .int .i64 e'.m, .slice e'.a e'.len e'.cap] 26)
      have hsz : g + 1 + 1 ≤ (U.alloc (.cells #[.int .u8 e'.op, .int .u8 e'.v.k, .int .i64 e'.v.n, .int .i64 e'.v.u, .string e'.v.t, .int .i64 e'.m, .slice e'.a e'.len e'.cap] 26)).heap.size := by have := HS.out.lt; have := hU2.size; omega
      have hbytes : (k + 1) * 80 ≤ 140737488355328 := by omega
      have hlen : k + 1 ≤ maxLen := by unfold maxLen; omega
      clear a0 a1 a2 a3 a4 a5 a6 a7 e0 e1 e2 e3 e4 e5 e6 e7 hU hU1 hU2 hin' hpo hnew HI
      go_wp2_with (at_builtin; refine wpList_append_own_at _ rfl _ _ 24 rfl (g + 1 + 1) 26 i0 _ 7 80 Try.underlying24 hi hz0 hz1 hz2 rfl (by decide) u5 k (cellsL q k) rfl hownU ⟨U.heap.size, 0, none⟩ 1 1 (cellsE e') rfl rfl (news_at (BoxE.new U e')) (cells_one e') hlen hbytes hsz ?_; intro v' w3 hown' hgrow hnil hblk)
      go_roundg (e.len - (k + 1))
      case measure => have := HGK.out.1; omega
      case rel =>
        have hU2 := HU2.out
        obtain ⟨hin', hpo, hnew⟩ := HN.out
        have hob := HOWN.out.lt
        have hsz2 := HS.out.lt
        have hlt3 : ∀ b, Value.ownBlock u5 = some b → g + 1 + 1 ≤ b ∧ b < wr.heap.size := hob
        have hne : ∀ j, j < g + 1 + 1 → Value.ownBlock u5 ≠ some j := fun j hj h => by have := (hlt3 j h).1; omega
        have hav : ∀ x : Ex, x.In (U.alloc (.cells #[.int .u8 e'.op, .int .u8 e'.v.k, .int .i64 e'.v.n, .int .i64 e'.v.u, .string e'.v.t, .int .i64 e'.m, .slice e'.a e'.len e'.cap] 26)) → (∀ b, Value.ownBlock u5 = some b → x.Av b) → ∀ b, Value.ownBlock v' = some b → x.Av b := fun x hx h b hb => by
          rcases hblk with h2 | h2
          · exact h b (by rw [← h2]; exact hb)
          · rw [h2] at hb
            cases hb
            exact hx.av (Nat.le_refl _)
        refine ⟨k + 1, fun i => if i = k then e' else q i, by omega, rfl, by go_num, ?_, fun i hi => ?_, ?_, ?_, ?_, ?_⟩
        · have hL : cellsL (fun i => if i = k then e' else q i) (k + 1) = cellsL q k ++ cellsE e' := by
            simp only [cellsL, if_true]
            rw [cellsL_congr (q' := q) (fun i hi => by rw [if_neg (by omega)])]
          rw [hL]
          exact hown'
        · dsimp only
          by_cases hik : i = k
          · subst hik
            have hav0 : ∀ b, Value.ownBlock u5 = some b → e'.Av b := fun b hb => hnew.av (by have := (hlt3 b hb).2; omega)
            rw [if_pos rfl]
            exact ⟨hin'.grown hgrow hav0, by rw [HP.out]; exact hpo, hnew.mono (by omega), hav e' hin' hav0⟩
          · obtain ⟨q1, q2, q3, q4⟩ := HQ.out i (by omega)
            have q1' := q1.below hU2
            rw [if_neg hik]
            exact ⟨q1'.grown hgrow q4, q2, q3, hav _ q1' q4⟩
        · refine (HB.out.trans (hU2.mono HB.out.size)).grown hgrow (by have := HB.out.size; have := hU2.size; omega) (fun j hj => ?_)
          have := (hlt3 j hj).1
          have := HG.out
          omega
        · exact (HE.out.below hU2).grown hgrow (hne g (by omega))
        · exact (HR.out.below hU2).grown hgrow (hne (g + 1) (by omega))
        · exact (HS.out.below hU2).grown hgrow (hne (g + 1) (by omega))
    · obtain ⟨a', c', hv', hkc, hcm, hat⟩ := own_form HOWN.out
      have hke : k = e.len := by omega
      have HKE := Lib.hid hke
      have hlt1 : decide (k < e.len) = false := by simpa using hlt
      have HF := Lib.hid (And.intro hkc (And.intro hcm hat))
      have HV := Lib.hid hv'
      rw [hv']
      obtain ⟨r0, r1, r2, r3, r4, r5, r6, r7⟩ := hbr
      obtain ⟨s0, s1, s2, s3, s4, s5, s6, s7⟩ := hbs
      clear hkc hcm hat hgk hk hown hq hb hke hv' hlt
      go_wp2_with fail
      obtain ⟨hkc, hcm, hat⟩ := HF.out
      have hwf := HIN.out.wf'
      have hwz := below_put7 HB.out (by have := HG.out; omega : w.heap.size ≤ g + 1) (.node e.op e.v e.m a' k c' q)
      obtain ⟨q0, q1, q2, q3, q4, q5, q6, q7⟩ := boxE_put7 HR.out (.node e.op e.v e.m a' k c' q)
      have hav : ∀ i, i < k → (q i).Av (g + 1) := fun i hi => (HQ.out i hi).2.2.1.av (by omega)
      refine bodyPost_ret (w := put7 wr (g + 1) (.node e.op e.v e.m a' k c' q)) (v := .agg #[.int .u8 (Ex.node e.op e.v e.m a' k c' q).op, .int .u8 (Ex.node e.op e.v e.m a' k c' q).v.k, .int .i64 (Ex.node e.op e.v e.m a' k c' q).v.n, .int .i64 (Ex.node e.op e.v e.m a' k c' q).v.u, .string (Ex.node e.op e.v e.m a' k c' q).v.t, .int .i64 (Ex.node e.op e.v e.m a' k c' q).m, .slice (Ex.node e.op e.v e.m a' k c' q).a (Ex.node e.op e.v e.m a' k c' q).len (Ex.node e.op e.v e.m a' k c' q).cap]) (by simp [results, Try.results23, go_sem, q0, q1, q2, q3, q4, q5, q6]) rfl ⟨.node e.op e.v e.m a' k c' q, rfl, hwz, Ex.in_iff.2 ⟨⟨hwf.op0, hwf.op1, hwf.m, hwf.k0, hwf.k1, hwf.n, hwf.u, hwf.t, hkc, hcm⟩, fun hl => ?_, fun i hi => (HQ.out i hi).1.put7 (hav i hi)⟩, putOf_iff.2 (.inr ⟨HC.out, rfl, rfl, rfl, HKE.out, fun i hi => (HQ.out i (by rw [HKE.out]; exact hi)).2.1⟩), Ex.new_iff.2 ⟨fun hl b o hb => ?_, fun i hi => (HQ.out i hi).2.2.1.mono (by have := HG.out; omega)⟩⟩
      · obtain ⟨b, ha, hB, hx⟩ := hat hl
        exact ⟨b, 0, ha, fun i hi => by rw [Nat.zero_add]; exact (hx i hi).put7 (by omega)⟩
      · obtain ⟨b', ha, hB, hx⟩ := hat hl
        have hb' : a' = some ⟨b, o, none⟩ := hb
        rw [ha] at hb'
        cases hb'
        have := HG.out
        omega

set_option maxRecDepth 100000 in
set_option maxHeartbeats 8000000 in
theorem put_hi (r : Rw) (e : Ex) (hsz : e.sz ≤ 500) (ih : ∀ i, i < e.len → ∀ w, (e.kid i).In w → r.In w → Calls Try.prog 23 #[.agg #[.int .u8 (e.kid i).op, .int .u8 (e.kid i).v.k, .int .i64 (e.kid i).v.n, .int .i64 (e.kid i).v.u, .string (e.kid i).v.t, .int .i64 (e.kid i).m, .slice (e.kid i).a (e.kid i).len (e.kid i).cap], .slice r.a r.len r.cap] w (PutC r (e.kid i) w)) (w : World) (hin : e.In w) (hr : r.In w) (hc : isC r e = false) (ho : e.op = 2) (k0 : Nat) (hm : e.m = (k0 : Int)) (hk0 : r.len ≤ k0) :
    Calls Try.prog 23 #[.agg #[.int .u8 e.op, .int .u8 e.v.k, .int .i64 e.v.n, .int .i64 e.v.u, .string e.v.t, .int .i64 e.m, .slice e.a e.len e.cap], .slice r.a r.len r.cap] w (PutC r e w) := by
  have HC := Lib.hid hc
  have IH := Lib.hid ih
  have HSZ := Lib.hid hsz
  clear hc ih hsz
  have o2 : (e.op == 2) = true := by simpa using ho
  have m2 : decide (k0 < r.len) = false := by simpa using hk0
  have h0 : (0 : Int) ≤ (k0 : Int) := by omega
  obtain ⟨W, g, hg, hW, B, R, S, hb, hs⟩ := boxEP w e
  have HB := Lib.hid hb
  have HG := Lib.hid hg
  have HE := Lib.hid B
  have HR := Lib.hid R
  have HS := Lib.hid S
  have HIN := Lib.hid hin
  have HRIN := Lib.hid hr
  obtain ⟨e0, e1, e2, e3, e4, e5, e6, e7⟩ := B
  rw [hm] at e5
  clear hb hs hin hr R S ho hm hk0
  go_enter Try.func23, Try.ntmps23
  go_wp2_with fail
  go_loopg [5, 6] e.len (fun gk v i wr => LoopP w r e g gk v i wr)
  case atStart => exact ⟨0, fun _ => .nil, Nat.zero_le _, by omega, rfl, World.ownsRow_nil _ _ _ _, fun i hi => absurd hi (Nat.not_lt_zero _), HB.out, HE.out, HR.out, HS.out⟩
  case round =>
    obtain ⟨k, q, hk, hgk, rfl, hown, hq, hb, hbox, hbr, hbs⟩ := hrel
    have hm : e.len ≤ 500 := Nat.le_trans (len_le_sz e) HSZ.out
    have HB := Lib.hid hb
    have HE := Lib.hid hbox
    have HR := Lib.hid hbr
    have HS := Lib.hid hbs
    have HQ := Lib.hid hq
    have HOWN := Lib.hid hown
    have HGK := Lib.hid (And.intro hgk hk)
    obtain ⟨e0, e1, e2, e3, e4, e5, e6, e7⟩ := hbox
    by_cases hlt : k < e.len
    · obtain ⟨b, o, hea, hat⟩ := HIN.out.args (by omega)
      have hat' := (hat k hlt).below HB.out
      have HI := Lib.hid (IH.out k hlt wr ((HIN.out.kid' hlt).below HB.out) (HRIN.out.below HB.out))
      obtain ⟨p, hp⟩ : ∃ p, e.kid k = p := ⟨_, rfl⟩
      rw [hp] at hat' HI
      have HP := Lib.hid hp
      rw [hea] at e6
      obtain ⟨a0, a1, a2, a3, a4, a5, a6, a7⟩ := hat'
      clear hea hat hp hgk hk hown hq hb hbr hbs
      go_wp2_with fail
      refine HI.out.mono ?_
      rintro _ U ⟨e', rfl, hU, hin', hpo, hnew⟩
      obtain ⟨i0, hi, hz0, hz1, hz2⟩ := info_parts infoE
      have hU1 := Below.allocs U (.cells #[.int .u8 e'.op, .int .u8 e'.v.k, .int .i64 e'.v.n, .int .i64 e'.v.u, .string e'.v.t, .int .i64 e'.m, .slice e'.a e'.len e'.cap] 26)
      have hU2 := below_tr hU hU1
      have HU2 := Lib.hid hU2
      have HN := Lib.hid (And.intro (hin'.below hU1) (And.intro hpo hnew))
      have hownU := (own_below HOWN.out hU).alloc (.cells #[.int .u8 e'.op, .int .u8 e'.v.k, .int .i64 e'.v.n, .int .i64 e'.v.u, .string e'.v.t, .int .i64 e'.m, .slice e'.a e'.len e'.cap] 26)
      have hsz : g + 1 + 1 ≤ (U.alloc (.cells #[.int .u8 e'.op, .int .u8 e'.v.k, .int .i64 e'.v.n, .int .i64 e'.v.u, .string e'.v.t, .int .i64 e'.m, .slice e'.a e'.len e'.cap] 26)).heap.size := by have := HS.out.lt; have := hU2.size; omega
      have hbytes : (k + 1) * 80 ≤ 140737488355328 := by omega
      have hlen : k + 1 ≤ maxLen := by unfold maxLen; omega
      clear a0 a1 a2 a3 a4 a5 a6 a7 e0 e1 e2 e3 e4 e5 e6 e7 hU hU1 hU2 hin' hpo hnew HI
      go_wp2_with (at_builtin; refine wpList_append_own_at _ rfl _ _ 24 rfl (g + 1 + 1) 26 i0 _ 7 80 Try.underlying24 hi hz0 hz1 hz2 rfl (by decide) u5 k (cellsL q k) rfl hownU ⟨U.heap.size, 0, none⟩ 1 1 (cellsE e') rfl rfl (news_at (BoxE.new U e')) (cells_one e') hlen hbytes hsz ?_; intro v' w3 hown' hgrow hnil hblk)
      go_roundg (e.len - (k + 1))
      case measure => have := HGK.out.1; omega
      case rel =>
        have hU2 := HU2.out
        obtain ⟨hin', hpo, hnew⟩ := HN.out
        have hob := HOWN.out.lt
        have hsz2 := HS.out.lt
        have hlt3 : ∀ b, Value.ownBlock u5 = some b → g + 1 + 1 ≤ b ∧ b < wr.heap.size := hob
        have hne : ∀ j, j < g + 1 + 1 → Value.ownBlock u5 ≠ some j := fun j hj h => by have := (hlt3 j h).1; omega
        have hav : ∀ x : Ex, x.In (U.alloc (.cells #[.int .u8 e'.op, .int .u8 e'.v.k, .int .i64 e'.v.n, .int .i64 e'.v.u, .string e'.v.t, .int .i64 e'.m, .slice e'.a e'.len e'.cap] 26)) → (∀ b, Value.ownBlock u5 = some b → x.Av b) → ∀ b, Value.ownBlock v' = some b → x.Av b := fun x hx h b hb => by
          rcases hblk with h2 | h2
          · exact h b (by rw [← h2]; exact hb)
          · rw [h2] at hb
            cases hb
            exact hx.av (Nat.le_refl _)
        refine ⟨k + 1, fun i => if i = k then e' else q i, by omega, rfl, by go_num, ?_, fun i hi => ?_, ?_, ?_, ?_, ?_⟩
        · have hL : cellsL (fun i => if i = k then e' else q i) (k + 1) = cellsL q k ++ cellsE e' := by
            simp only [cellsL, if_true]
            rw [cellsL_congr (q' := q) (fun i hi => by rw [if_neg (by omega)])]
          rw [hL]
          exact hown'
        · dsimp only
          by_cases hik : i = k
          · subst hik
            have hav0 : ∀ b, Value.ownBlock u5 = some b → e'.Av b := fun b hb => hnew.av (by have := (hlt3 b hb).2; omega)
            rw [if_pos rfl]
            exact ⟨hin'.grown hgrow hav0, by rw [HP.out]; exact hpo, hnew.mono (by omega), hav e' hin' hav0⟩
          · obtain ⟨q1, q2, q3, q4⟩ := HQ.out i (by omega)
            have q1' := q1.below hU2
            rw [if_neg hik]
            exact ⟨q1'.grown hgrow q4, q2, q3, hav _ q1' q4⟩
        · refine (HB.out.trans (hU2.mono HB.out.size)).grown hgrow (by have := HB.out.size; have := hU2.size; omega) (fun j hj => ?_)
          have := (hlt3 j hj).1
          have := HG.out
          omega
        · exact (HE.out.below hU2).grown hgrow (hne g (by omega))
        · exact (HR.out.below hU2).grown hgrow (hne (g + 1) (by omega))
        · exact (HS.out.below hU2).grown hgrow (hne (g + 1) (by omega))
    · obtain ⟨a', c', hv', hkc, hcm, hat⟩ := own_form HOWN.out
      have hke : k = e.len := by omega
      have HKE := Lib.hid hke
      have hlt1 : decide (k < e.len) = false := by simpa using hlt
      have HF := Lib.hid (And.intro hkc (And.intro hcm hat))
      have HV := Lib.hid hv'
      rw [hv']
      obtain ⟨r0, r1, r2, r3, r4, r5, r6, r7⟩ := hbr
      obtain ⟨s0, s1, s2, s3, s4, s5, s6, s7⟩ := hbs
      clear hkc hcm hat hgk hk hown hq hb hke hv' hlt
      go_wp2_with fail
      obtain ⟨hkc, hcm, hat⟩ := HF.out
      have hwf := HIN.out.wf'
      have hwz := below_put7 HB.out (by have := HG.out; omega : w.heap.size ≤ g + 1) (.node e.op e.v e.m a' k c' q)
      obtain ⟨q0, q1, q2, q3, q4, q5, q6, q7⟩ := boxE_put7 HR.out (.node e.op e.v e.m a' k c' q)
      have hav : ∀ i, i < k → (q i).Av (g + 1) := fun i hi => (HQ.out i hi).2.2.1.av (by omega)
      refine bodyPost_ret (w := put7 wr (g + 1) (.node e.op e.v e.m a' k c' q)) (v := .agg #[.int .u8 (Ex.node e.op e.v e.m a' k c' q).op, .int .u8 (Ex.node e.op e.v e.m a' k c' q).v.k, .int .i64 (Ex.node e.op e.v e.m a' k c' q).v.n, .int .i64 (Ex.node e.op e.v e.m a' k c' q).v.u, .string (Ex.node e.op e.v e.m a' k c' q).v.t, .int .i64 (Ex.node e.op e.v e.m a' k c' q).m, .slice (Ex.node e.op e.v e.m a' k c' q).a (Ex.node e.op e.v e.m a' k c' q).len (Ex.node e.op e.v e.m a' k c' q).cap]) (by simp [results, Try.results23, go_sem, q0, q1, q2, q3, q4, q5, q6]) rfl ⟨.node e.op e.v e.m a' k c' q, rfl, hwz, Ex.in_iff.2 ⟨⟨hwf.op0, hwf.op1, hwf.m, hwf.k0, hwf.k1, hwf.n, hwf.u, hwf.t, hkc, hcm⟩, fun hl => ?_, fun i hi => (HQ.out i hi).1.put7 (hav i hi)⟩, putOf_iff.2 (.inr ⟨HC.out, rfl, rfl, rfl, HKE.out, fun i hi => (HQ.out i (by rw [HKE.out]; exact hi)).2.1⟩), Ex.new_iff.2 ⟨fun hl b o hb => ?_, fun i hi => (HQ.out i hi).2.2.1.mono (by have := HG.out; omega)⟩⟩
      · obtain ⟨b, ha, hB, hx⟩ := hat hl
        exact ⟨b, 0, ha, fun i hi => by rw [Nat.zero_add]; exact (hx i hi).put7 (by omega)⟩
      · obtain ⟨b', ha, hB, hx⟩ := hat hl
        have hb' : a' = some ⟨b, o, none⟩ := hb
        rw [ha] at hb'
        cases hb'
        have := HG.out
        omega

set_option maxRecDepth 100000 in
set_option maxHeartbeats 8000000 in
theorem put_v (r : Rw) (e : Ex) (hsz : e.sz ≤ 500) (ih : ∀ i, i < e.len → ∀ w, (e.kid i).In w → r.In w → Calls Try.prog 23 #[.agg #[.int .u8 (e.kid i).op, .int .u8 (e.kid i).v.k, .int .i64 (e.kid i).v.n, .int .i64 (e.kid i).v.u, .string (e.kid i).v.t, .int .i64 (e.kid i).m, .slice (e.kid i).a (e.kid i).len (e.kid i).cap], .slice r.a r.len r.cap] w (PutC r (e.kid i) w)) (w : World) (hin : e.In w) (hr : r.In w) (hc : isC r e = false) (ho : e.op = 2) (k0 : Nat) (hm : e.m = (k0 : Int)) (hk0 : k0 < r.len) (hv : mayV (r.vals k0) = false) :
    Calls Try.prog 23 #[.agg #[.int .u8 e.op, .int .u8 e.v.k, .int .i64 e.v.n, .int .i64 e.v.u, .string e.v.t, .int .i64 e.m, .slice e.a e.len e.cap], .slice r.a r.len r.cap] w (PutC r e w) := by
  have HC := Lib.hid hc
  have IH := Lib.hid ih
  have HSZ := Lib.hid hsz
  clear hc ih hsz
  have o2 : (e.op == 2) = true := by simpa using ho
  have h0 : (0 : Int) ≤ (k0 : Int) := by omega
  have hl : r.len ≤ 9223372036854775807 := by have := hr.lc; have := hr.cm; unfold maxLen at this; omega
  obtain ⟨b0, o0, hra, hat0⟩ := hr.at' (by omega)
  have HRA := Lib.hid hra
  obtain ⟨W, g, hg, hW, B, R, S, hb, hs⟩ := boxEP w e
  have HB := Lib.hid hb
  have HG := Lib.hid hg
  have HE := Lib.hid B
  have HR := Lib.hid R
  have HS := Lib.hid S
  have HIN := Lib.hid hin
  have HRIN := Lib.hid hr
  have hat1 := (hat0 k0 hk0).below hb
  obtain ⟨v0, hvv⟩ : ∃ v, r.vals k0 = v := ⟨_, rfl⟩
  rw [hvv] at hat1 hv
  have HVV := Lib.hid hv
  obtain ⟨a0, a1, a2, a3, a4⟩ := hat1
  obtain ⟨e0, e1, e2, e3, e4, e5, e6, e7⟩ := B
  rw [hm] at e5
  clear hb hs hin hr R S ho hm hat0 hvv hv hra
  rw [HRA.out]
  go_enter Try.func23, Try.ntmps23
  go_wp2_with fail
  refine (mayv_is v0 false HVV.out _).mono ?_
  rintro _ X ⟨rfl, hX⟩
  have HB1 := Lib.hid (below_tr HB.out hX)
  have HE1 := Lib.hid (HE.out.below hX)
  have HR1 := Lib.hid (HR.out.below hX)
  have HS1 := Lib.hid (HS.out.below hX)
  clear hX a0 a1 a2 a3 a4 e0 e1 e2 e3 e4 e5 e6 e7 HB HE HR HS
  have HB := HB1
  have HE := HE1
  have HR := HR1
  have HS := HS1
  clear HB1 HE1 HR1 HS1
  go_wp2_with fail
  rw [← HRA.out]
  go_loopg [5, 6] e.len (fun gk v i wr => LoopP w r e g gk v i wr)
  case atStart => exact ⟨0, fun _ => .nil, Nat.zero_le _, by omega, rfl, World.ownsRow_nil _ _ _ _, fun i hi => absurd hi (Nat.not_lt_zero _), HB.out, HE.out, HR.out, HS.out⟩
  case round =>
    obtain ⟨k, q, hk, hgk, rfl, hown, hq, hb, hbox, hbr, hbs⟩ := hrel
    have hm : e.len ≤ 500 := Nat.le_trans (len_le_sz e) HSZ.out
    have HB := Lib.hid hb
    have HE := Lib.hid hbox
    have HR := Lib.hid hbr
    have HS := Lib.hid hbs
    have HQ := Lib.hid hq
    have HOWN := Lib.hid hown
    have HGK := Lib.hid (And.intro hgk hk)
    obtain ⟨e0, e1, e2, e3, e4, e5, e6, e7⟩ := hbox
    by_cases hlt : k < e.len
    · obtain ⟨b, o, hea, hat⟩ := HIN.out.args (by omega)
      have hat' := (hat k hlt).below HB.out
      have HI := Lib.hid (IH.out k hlt wr ((HIN.out.kid' hlt).below HB.out) (HRIN.out.below HB.out))
      obtain ⟨p, hp⟩ : ∃ p, e.kid k = p := ⟨_, rfl⟩
      rw [hp] at hat' HI
      have HP := Lib.hid hp
      rw [hea] at e6
      obtain ⟨a0, a1, a2, a3, a4, a5, a6, a7⟩ := hat'
      clear hea hat hp hgk hk hown hq hb hbr hbs
      go_wp2_with fail
      refine HI.out.mono ?_
      rintro _ U ⟨e', rfl, hU, hin', hpo, hnew⟩
      obtain ⟨i0, hi, hz0, hz1, hz2⟩ := info_parts infoE
      have hU1 := Below.allocs U (.cells #[.int .u8 e'.op, .int .u8 e'.v.k, .int .i64 e'.v.n, .int .i64 e'.v.u, .string e'.v.t, .int .i64 e'.m, .slice e'.a e'.len e'.cap] 26)
      have hU2 := below_tr hU hU1
      have HU2 := Lib.hid hU2
      have HN := Lib.hid (And.intro (hin'.below hU1) (And.intro hpo hnew))
      have hownU := (own_below HOWN.out hU).alloc (.cells #[.int .u8 e'.op, .int .u8 e'.v.k, .int .i64 e'.v.n, .int .i64 e'.v.u, .string e'.v.t, .int .i64 e'.m, .slice e'.a e'.len e'.cap] 26)
      have hsz : g + 1 + 1 ≤ (U.alloc (.cells #[.int .u8 e'.op, .int .u8 e'.v.k, .int .i64 e'.v.n, .int .i64 e'.v.u, .string e'.v.t, .int .i64 e'.m, .slice e'.a e'.len e'.cap] 26)).heap.size := by have := HS.out.lt; have := hU2.size; omega
      have hbytes : (k + 1) * 80 ≤ 140737488355328 := by omega
      have hlen : k + 1 ≤ maxLen := by unfold maxLen; omega
      clear a0 a1 a2 a3 a4 a5 a6 a7 e0 e1 e2 e3 e4 e5 e6 e7 hU hU1 hU2 hin' hpo hnew HI
      go_wp2_with (at_builtin; refine wpList_append_own_at _ rfl _ _ 24 rfl (g + 1 + 1) 26 i0 _ 7 80 Try.underlying24 hi hz0 hz1 hz2 rfl (by decide) u5 k (cellsL q k) rfl hownU ⟨U.heap.size, 0, none⟩ 1 1 (cellsE e') rfl rfl (news_at (BoxE.new U e')) (cells_one e') hlen hbytes hsz ?_; intro v' w3 hown' hgrow hnil hblk)
      go_roundg (e.len - (k + 1))
      case measure => have := HGK.out.1; omega
      case rel =>
        have hU2 := HU2.out
        obtain ⟨hin', hpo, hnew⟩ := HN.out
        have hob := HOWN.out.lt
        have hsz2 := HS.out.lt
        have hlt3 : ∀ b, Value.ownBlock u5 = some b → g + 1 + 1 ≤ b ∧ b < wr.heap.size := hob
        have hne : ∀ j, j < g + 1 + 1 → Value.ownBlock u5 ≠ some j := fun j hj h => by have := (hlt3 j h).1; omega
        have hav : ∀ x : Ex, x.In (U.alloc (.cells #[.int .u8 e'.op, .int .u8 e'.v.k, .int .i64 e'.v.n, .int .i64 e'.v.u, .string e'.v.t, .int .i64 e'.m, .slice e'.a e'.len e'.cap] 26)) → (∀ b, Value.ownBlock u5 = some b → x.Av b) → ∀ b, Value.ownBlock v' = some b → x.Av b := fun x hx h b hb => by
          rcases hblk with h2 | h2
          · exact h b (by rw [← h2]; exact hb)
          · rw [h2] at hb
            cases hb
            exact hx.av (Nat.le_refl _)
        refine ⟨k + 1, fun i => if i = k then e' else q i, by omega, rfl, by go_num, ?_, fun i hi => ?_, ?_, ?_, ?_, ?_⟩
        · have hL : cellsL (fun i => if i = k then e' else q i) (k + 1) = cellsL q k ++ cellsE e' := by
            simp only [cellsL, if_true]
            rw [cellsL_congr (q' := q) (fun i hi => by rw [if_neg (by omega)])]
          rw [hL]
          exact hown'
        · dsimp only
          by_cases hik : i = k
          · subst hik
            have hav0 : ∀ b, Value.ownBlock u5 = some b → e'.Av b := fun b hb => hnew.av (by have := (hlt3 b hb).2; omega)
            rw [if_pos rfl]
            exact ⟨hin'.grown hgrow hav0, by rw [HP.out]; exact hpo, hnew.mono (by omega), hav e' hin' hav0⟩
          · obtain ⟨q1, q2, q3, q4⟩ := HQ.out i (by omega)
            have q1' := q1.below hU2
            rw [if_neg hik]
            exact ⟨q1'.grown hgrow q4, q2, q3, hav _ q1' q4⟩
        · refine (HB.out.trans (hU2.mono HB.out.size)).grown hgrow (by have := HB.out.size; have := hU2.size; omega) (fun j hj => ?_)
          have := (hlt3 j hj).1
          have := HG.out
          omega
        · exact (HE.out.below hU2).grown hgrow (hne g (by omega))
        · exact (HR.out.below hU2).grown hgrow (hne (g + 1) (by omega))
        · exact (HS.out.below hU2).grown hgrow (hne (g + 1) (by omega))
    · obtain ⟨a', c', hv', hkc, hcm, hat⟩ := own_form HOWN.out
      have hke : k = e.len := by omega
      have HKE := Lib.hid hke
      have hlt1 : decide (k < e.len) = false := by simpa using hlt
      have HF := Lib.hid (And.intro hkc (And.intro hcm hat))
      have HV := Lib.hid hv'
      rw [hv']
      obtain ⟨r0, r1, r2, r3, r4, r5, r6, r7⟩ := hbr
      obtain ⟨s0, s1, s2, s3, s4, s5, s6, s7⟩ := hbs
      clear hkc hcm hat hgk hk hown hq hb hke hv' hlt
      go_wp2_with fail
      obtain ⟨hkc, hcm, hat⟩ := HF.out
      have hwf := HIN.out.wf'
      have hwz := below_put7 HB.out (by have := HG.out; omega : w.heap.size ≤ g + 1) (.node e.op e.v e.m a' k c' q)
      obtain ⟨q0, q1, q2, q3, q4, q5, q6, q7⟩ := boxE_put7 HR.out (.node e.op e.v e.m a' k c' q)
      have hav : ∀ i, i < k → (q i).Av (g + 1) := fun i hi => (HQ.out i hi).2.2.1.av (by omega)
      refine bodyPost_ret (w := put7 wr (g + 1) (.node e.op e.v e.m a' k c' q)) (v := .agg #[.int .u8 (Ex.node e.op e.v e.m a' k c' q).op, .int .u8 (Ex.node e.op e.v e.m a' k c' q).v.k, .int .i64 (Ex.node e.op e.v e.m a' k c' q).v.n, .int .i64 (Ex.node e.op e.v e.m a' k c' q).v.u, .string (Ex.node e.op e.v e.m a' k c' q).v.t, .int .i64 (Ex.node e.op e.v e.m a' k c' q).m, .slice (Ex.node e.op e.v e.m a' k c' q).a (Ex.node e.op e.v e.m a' k c' q).len (Ex.node e.op e.v e.m a' k c' q).cap]) (by simp [results, Try.results23, go_sem, q0, q1, q2, q3, q4, q5, q6]) rfl ⟨.node e.op e.v e.m a' k c' q, rfl, hwz, Ex.in_iff.2 ⟨⟨hwf.op0, hwf.op1, hwf.m, hwf.k0, hwf.k1, hwf.n, hwf.u, hwf.t, hkc, hcm⟩, fun hl => ?_, fun i hi => (HQ.out i hi).1.put7 (hav i hi)⟩, putOf_iff.2 (.inr ⟨HC.out, rfl, rfl, rfl, HKE.out, fun i hi => (HQ.out i (by rw [HKE.out]; exact hi)).2.1⟩), Ex.new_iff.2 ⟨fun hl b o hb => ?_, fun i hi => (HQ.out i hi).2.2.1.mono (by have := HG.out; omega)⟩⟩
      · obtain ⟨b, ha, hB, hx⟩ := hat hl
        exact ⟨b, 0, ha, fun i hi => by rw [Nat.zero_add]; exact (hx i hi).put7 (by omega)⟩
      · obtain ⟨b', ha, hB, hx⟩ := hat hl
        have hb' : a' = some ⟨b, o, none⟩ := hb
        rw [ha] at hb'
        cases hb'
        have := HG.out
        omega

/-- put, for any expression of at most 500 parts and any row. -/
theorem put_is (r : Rw) : ∀ (e : Ex), e.sz ≤ 500 → ∀ (w : World), e.In w → r.In w → Calls Try.prog 23 #[.agg #[.int .u8 e.op, .int .u8 e.v.k, .int .i64 e.v.n, .int .i64 e.v.u, .string e.v.t, .int .i64 e.m, .slice e.a e.len e.cap], .slice r.a r.len r.cap] w (PutC r e w) := by
  intro e
  induction e using Ex.ind with
  | h e ih =>
    intro hsz w hin hr
    have ih' : ∀ i, i < e.len → ∀ w, (e.kid i).In w → r.In w → Calls Try.prog 23 #[.agg #[.int .u8 (e.kid i).op, .int .u8 (e.kid i).v.k, .int .i64 (e.kid i).v.n, .int .i64 (e.kid i).v.u, .string (e.kid i).v.t, .int .i64 (e.kid i).m, .slice (e.kid i).a (e.kid i).len (e.kid i).cap], .slice r.a r.len r.cap] w (PutC r (e.kid i) w) := fun i hi w h1 h2 =>
      ih i hi (by have := sumTo_le (f := fun i => (e.kid i).sz) hi; rw [Ex.sz_eq] at hsz; omega) w h1 h2
    cases hc : isC r e
    · by_cases ho : e.op = 2
      · by_cases hm : e.m < 0
        · exact put_lo r e hsz ih' w hin hr hc ho hm
        · by_cases hk : r.len ≤ e.m.toNat
          · exact put_hi r e hsz ih' w hin hr hc ho e.m.toNat (by omega) hk
          · refine put_v r e hsz ih' w hin hr hc ho e.m.toNat (by omega) (by omega) ?_
            unfold isC at hc
            have h1 : decide (e.op = 2) = true := by simpa using ho
            have h2 : decide (0 ≤ e.m) = true := by simp; omega
            have h3 : decide (e.m < (r.len : Int)) = true := by simp; omega
            rw [h1, h2, h3] at hc
            simpa using hc
      · exact put_op r e hsz ih' w hin hr hc ho
    · unfold isC at hc
      simp only [Bool.and_eq_true, decide_eq_true_eq] at hc
      exact put_col r e w hin hr e.m.toNat hc.1 (by omega) (by omega) hc.2.2.2
end Go.Proofs.Ytflclkmhdngmaaa
