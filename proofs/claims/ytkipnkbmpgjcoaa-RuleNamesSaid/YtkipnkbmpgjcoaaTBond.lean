/-
  slices.Equal at types; rule.bond: which rules fit (stage 8).
-/
import Derived.Test.YtkipnkbmpgjcoaaTLoad
namespace Go.Proofs.Ytkipnkbmpgjcoaa
open Go.RowKit

theorem eq_step {l m : List Int} {k : Nat} {x : Int} (h : l.take k = m.take k) (hx : l[k]? = some x) (hy : m[k]? = some x) : l.take (k + 1) = m.take (k + 1) := by
  rw [List.take_add_one, List.take_add_one, h, hx, hy]

theorem ne_step {l m : List Int} {k : Nat} {x y : Int} (hx : l[k]? = some x) (hy : m[k]? = some y) (h : x ≠ y) : l ≠ m := by
  rintro rfl
  rw [hx] at hy
  exact h (by injection hy)

set_option maxHeartbeats 1000000 in
theorem equal_u8 (b o c n b' o' c' n' : Nat) (l m : List Int) (hl : l.length = n) (hm : m.length = n') (hs : n ≤ 1000000) (hs' : n' ≤ 1000000) (w : World) (h1 : LstU w b o l) (h2 : LstU w b' o' m) (r : Bool) (hr : decide (l = m) = r) :
    Calls Try.prog 54 #[.slice (some ⟨b, o, none⟩) n c, .slice (some ⟨b', o', none⟩) n' c'] w fun e w' => e = .returned (.bool r) ∧ Below w.heap.size w w' := by
  have HL := Lib.hid hl
  have HM := Lib.hid hm
  have H1 := Lib.hid h1
  have H2 := Lib.hid h2
  have HR := Lib.hid hr
  clear hl hm h1 h2 hr
  by_cases hn : n = n'
  · subst hn
    go_enter Try.func54, Try.ntmps54
    go_wp2_with fail
    go_loopg [13] n (fun gk i wr => ∃ k : Nat, k ≤ n ∧ gk = n - k ∧ i = .int .i64 k ∧ Hid (l.take k = m.take k) ∧ Hid (Below w.heap.size w wr))
    case atStart => exact ⟨0, Nat.zero_le _, by omega, rfl, Lib.hid (by simp), Lib.hid (Below.refl _ _)⟩
    case round =>
      obtain ⟨k, hk, hgk, rfl, HA, HB⟩ := hrel
      have HG := Lib.hid hgk
      clear hgk
      by_cases hlt : k < n
      · obtain ⟨x, hx⟩ := getI (l := l) (i := k) (by rw [HL.out]; exact hlt)
        obtain ⟨y, hy⟩ := getI (l := m) (i := k) (by rw [HM.out]; exact hlt)
        have c1 := (H1.out.below HB.out).2 k x hx
        have c2 := (H2.out.below HB.out).2 k y hy
        have HX := Lib.hid hx
        have HY := Lib.hid hy
        clear hx hy
        by_cases hxy : x = y
        · have hxy' : (x != y) = false := by simpa using hxy
          have HQ := Lib.hid hxy
          clear hxy
          go_wp2_with fail
          go_quiet (fail)
          go_wp2_with fail
          go_roundg (n - (k + 1))
          case measure => have := HG.out; omega
          case rel => exact ⟨k + 1, by omega, rfl, by go_num, Lib.hid (eq_step HA.out HX.out (by rw [HQ.out]; exact HY.out)), by first | exact HB | exact Lib.hid (HB.out.trans (drewN_below _ _)) | exact Lib.hid (HB.out.trans ((drewN_below _ _).mono HB.out.size))⟩
        · have hxy' : (x != y) = true := by simpa using hxy
          obtain rfl : r = false := by rw [← HR.out, decide_eq_false_iff_not]; exact ne_step HX.out HY.out hxy
          clear hxy
          go_wp2_with fail
          go_quiet (fail)
          go_wp2_with fail
          go_ret
          exact ⟨rfl, by first | exact HB.out | exact HB.out.trans ((drewN_below _ _).mono HB.out.size)⟩
      · have hlt' : decide (k < n) = false := by simpa using hlt
        obtain rfl : r = true := by
          rw [← HR.out, decide_eq_true_eq]
          have := HA.out
          rwa [List.take_of_length_le (by rw [HL.out]; omega), List.take_of_length_le (by rw [HM.out]; omega)] at this
        go_wp2_with fail
        go_ret
        exact ⟨rfl, HB.out⟩
  · obtain rfl : r = false := by
      rw [← HR.out, decide_eq_false_iff_not]
      intro h
      exact hn (by rw [← HL.out, ← HM.out, h])
    have hd : ((n : Int) != (n' : Int)) = true := by simp; omega
    go_enter Try.func54, Try.ntmps54
    go_wp2_with fail
    go_ret
    exact ⟨rfl, Below.refl _ _⟩

/-- The cells of a bond: a rule on its table, another one on its. -/
def bdc (r : Rl) (t : Tb) (q : Rl) (u : Tb) : List Value := ((.int .u8 r.kind :: .string r.nm :: .string r.tb :: .slice r.a r.n r.cap :: .int .u8 r.is.op :: .int .u8 r.is.v.k :: .int .i64 r.is.v.n :: .int .i64 r.is.v.u :: .string r.is.v.t :: .int .i64 r.is.m :: .slice r.is.a r.is.len r.is.cap :: .string r.to :: .int .u8 r.od :: .int .u8 r.ou :: .bool r.late :: .bool r.valid :: .string t.nm :: .slice t.a t.n t.cap :: .string t.ow :: .int .u8 q.kind :: .string q.nm :: .string q.tb :: .slice q.a q.n q.cap :: .int .u8 q.is.op :: .int .u8 q.is.v.k :: .int .i64 q.is.v.n :: .int .i64 q.is.v.u :: .string q.is.v.t :: .int .i64 q.is.m :: .slice q.is.a q.is.len q.is.cap :: .string q.to :: .int .u8 q.od :: .int .u8 q.ou :: .bool q.late :: .bool q.valid :: .string u.nm :: .slice u.a u.n u.cap :: .string u.ow :: []))

theorem boxB (w : World) (r : Rl) (t : Tb) (q : Rl) (u : Tb) : ∃ W g, w.alloc (.cells (List.toArray (.int .u8 r.kind :: .string r.nm :: .string r.tb :: .slice r.a r.n r.cap :: .int .u8 r.is.op :: .int .u8 r.is.v.k :: .int .i64 r.is.v.n :: .int .i64 r.is.v.u :: .string r.is.v.t :: .int .i64 r.is.m :: .slice r.is.a r.is.len r.is.cap :: .string r.to :: .int .u8 r.od :: .int .u8 r.ou :: .bool r.late :: .bool r.valid :: .string t.nm :: .slice t.a t.n t.cap :: .string t.ow :: .int .u8 q.kind :: .string q.nm :: .string q.tb :: .slice q.a q.n q.cap :: .int .u8 q.is.op :: .int .u8 q.is.v.k :: .int .i64 q.is.v.n :: .int .i64 q.is.v.u :: .string q.is.v.t :: .int .i64 q.is.m :: .slice q.is.a q.is.len q.is.cap :: .string q.to :: .int .u8 q.od :: .int .u8 q.ou :: .bool q.late :: .bool q.valid :: .string u.nm :: .slice u.a u.n u.cap :: .string u.ow :: [])) 66) = W ∧ w.heap.size = g ∧ Blk W g (bdc r t q u) ∧ Below w.heap.size w W :=
  ⟨_, _, rfl, rfl, Blk.new w _ _, Below.allocs w _⟩

theorem blk_lo {W : World} {g : Nat} {r : Rl} {t : Tb} {q : Rl} {u : Tb} (h : Blk W g (bdc r t q u)) : ∀ j v, (plc r t)[j]? = some v → W.cell? ⟨g, 0 + j, none⟩ = some v := fun j v hv => by
  rw [Nat.zero_add]
  refine h.get j v ?_
  rw [show bdc r t q u = plc r t ++ plc q u from rfl, List.getElem?_append_left (List.getElem?_eq_some_iff.1 hv).1]
  exact hv

theorem blk_hi {W : World} {g : Nat} {r : Rl} {t : Tb} {q : Rl} {u : Tb} (h : Blk W g (bdc r t q u)) : ∀ j v, (plc q u)[j]? = some v → W.cell? ⟨g, 19 + j, none⟩ = some v := fun j v hv => by
  refine h.get (19 + j) v ?_
  rw [← List.getElem?_drop]
  exact hv

theorem blk_all {W : World} {g : Nat} {r : Rl} {t : Tb} {q : Rl} {u : Tb} (h : Blk W g (bdc r t q u)) : ∀ j v, (bdc r t q u)[j]? = some v → W.cell? ⟨g, 0 + j, none⟩ = some v := fun j v hv => by
  rw [Nat.zero_add]
  exact h.get j v hv

def refersB (r q : Rl) (u : Tb) : Bool := decide (q.kind = 3) && ((q.tb.toList == u.nm.toList) && (!q.late && (mayC q.cols u.n && ((r.to.toList == q.nm.toList) && decide (r.n = q.n)))))

set_option maxRecDepth 100000 in
set_option maxHeartbeats 2000000 in
theorem refers_is (r : Rl) (t : Tb) (q : Rl) (u : Tb) (w : World) (hr : r.In w) (ht : t.In w) (hq : q.In w) (hu : u.In w) (hs : q.n ≤ 1000000) (z : Bool) (hz : refersB r q u = z) :
    Calls Try.prog 52 #[.agg (List.toArray (.int .u8 r.kind :: .string r.nm :: .string r.tb :: .slice r.a r.n r.cap :: .int .u8 r.is.op :: .int .u8 r.is.v.k :: .int .i64 r.is.v.n :: .int .i64 r.is.v.u :: .string r.is.v.t :: .int .i64 r.is.m :: .slice r.is.a r.is.len r.is.cap :: .string r.to :: .int .u8 r.od :: .int .u8 r.ou :: .bool r.late :: .bool r.valid :: .string t.nm :: .slice t.a t.n t.cap :: .string t.ow :: .int .u8 q.kind :: .string q.nm :: .string q.tb :: .slice q.a q.n q.cap :: .int .u8 q.is.op :: .int .u8 q.is.v.k :: .int .i64 q.is.v.n :: .int .i64 q.is.v.u :: .string q.is.v.t :: .int .i64 q.is.m :: .slice q.is.a q.is.len q.is.cap :: .string q.to :: .int .u8 q.od :: .int .u8 q.ou :: .bool q.late :: .bool q.valid :: .string u.nm :: .slice u.a u.n u.cap :: .string u.ow :: []))] w fun e w' => e = .returned (.bool z) ∧ Below w.heap.size w w' := by
  unfold refersB at hz
  obtain ⟨k3, h_k3⟩ : ∃ b, decide (q.kind = 3) = b := ⟨_, rfl⟩
  obtain ⟨e1, h_e1⟩ : ∃ b, (q.tb.toList == u.nm.toList) = b := ⟨_, rfl⟩
  obtain ⟨nl, h_nl⟩ : ∃ b, q.late = !b := ⟨!q.late, by simp⟩
  obtain ⟨m, h_m⟩ : ∃ b, mayC q.cols u.n = b := ⟨_, rfl⟩
  obtain ⟨e2, h_e2⟩ : ∃ b, (r.to.toList == q.nm.toList) = b := ⟨_, rfl⟩
  obtain ⟨e3, h_e3⟩ : ∃ b, decide (r.n = q.n) = b := ⟨_, rfl⟩
  rw [h_k3, h_e1, h_nl, h_m, h_e2, h_e3] at hz
  subst hz
  obtain ⟨W, g, hW, hg, B, hb⟩ := boxB w r t q u
  have HB := Lib.hid hb
  have HBK := Lib.hid B
  have HR := Lib.hid (hr.below hb)
  have HT := Lib.hid (ht.below hb)
  have HQ := Lib.hid (hq.below hb)
  have HU := Lib.hid (hu.below hb)
  have c0 := B.get 0 _ rfl
  have c1 := B.get 1 _ rfl
  have c2 := B.get 2 _ rfl
  have c3 := B.get 3 _ rfl
  have c4 := B.get 4 _ rfl
  have c5 := B.get 5 _ rfl
  have c6 := B.get 6 _ rfl
  have c7 := B.get 7 _ rfl
  have c8 := B.get 8 _ rfl
  have c9 := B.get 9 _ rfl
  have c10 := B.get 10 _ rfl
  have c11 := B.get 11 _ rfl
  have c12 := B.get 12 _ rfl
  have c13 := B.get 13 _ rfl
  have c14 := B.get 14 _ rfl
  have c15 := B.get 15 _ rfl
  have c16 := B.get 16 _ rfl
  have c17 := B.get 17 _ rfl
  have c18 := B.get 18 _ rfl
  have c19 := B.get 19 _ rfl
  have c20 := B.get 20 _ rfl
  have c21 := B.get 21 _ rfl
  have c22 := B.get 22 _ rfl
  have c23 := B.get 23 _ rfl
  have c24 := B.get 24 _ rfl
  have c25 := B.get 25 _ rfl
  have c26 := B.get 26 _ rfl
  have c27 := B.get 27 _ rfl
  have c28 := B.get 28 _ rfl
  have c29 := B.get 29 _ rfl
  have c30 := B.get 30 _ rfl
  have c31 := B.get 31 _ rfl
  have c32 := B.get 32 _ rfl
  have c33 := B.get 33 _ rfl
  have c34 := B.get 34 _ rfl
  have c35 := B.get 35 _ rfl
  have c36 := B.get 36 _ rfl
  have c37 := B.get 37 _ rfl
  clear hr ht hq hu B hb
  have HM := Lib.hid h_m
  rw [h_nl] at c33
  have x3 : ((r.n : Int) == (q.n : Int)) = e3 := by rw [← h_e3, Bool.eq_iff_iff]; simp; omega
  clear h_m h_e3 h_nl
  cases k3
  · have x1 : (q.kind == 3) = false := by simpa using h_k3
    clear h_k3
    go_enter Try.func52, Try.ntmps52
    go_wp2_with fail
    go_ret
    first | exact ⟨rfl, HB.out⟩ | exact ⟨rfl, hg ▸ HB.out⟩
  have x1 : (q.kind == 3) = true := by simpa using h_k3
  clear h_k3
  cases e1
  · go_enter Try.func52, Try.ntmps52
    go_wp2_with fail
    go_ret
    first | exact ⟨rfl, HB.out⟩ | exact ⟨rfl, hg ▸ HB.out⟩
  cases nl <;> simp only [Bool.not_false, Bool.not_true] at c33
  · go_enter Try.func52, Try.ntmps52
    go_wp2_with fail
    go_ret
    first | exact ⟨rfl, HB.out⟩ | exact ⟨rfl, hg ▸ HB.out⟩
  have hcon := hascols_is q u W HQ.out hs m HM.out
  go_enter Try.func52, Try.ntmps52
  go_wp2_with (refine load_step 29 64 28 _ _ _ _ rfl g 19 rfl [.int .u8 q.kind, .string q.nm, .string q.tb, .slice q.a q.n q.cap, .int .u8 q.is.op, .int .u8 q.is.v.k, .int .i64 q.is.v.n, .int .i64 q.is.v.u, .string q.is.v.t, .int .i64 q.is.m, .slice q.is.a q.is.len q.is.cap, .string q.to, .int .u8 q.od, .int .u8 q.ou, .bool q.late, .bool q.valid, .string u.nm, .slice u.a u.n u.cap, .string u.ow] _ (blk_hi HBK.out) Try.underlying64 rfl (by kernel_rfl) ?_)
  refine hcon.mono ?_
  rintro e w1 ⟨rfl, hb1⟩
  have HB1 := Lib.hid (below_tr HB.out hb1)
  have HBK1 := Lib.hid (HBK.out.below hb1)
  clear hcon hb1 hW c0 c1 c2 c3 c4 c5 c6 c7 c8 c9 c10 c11 c12 c13 c14 c15 c16 c17 c18 c19 c20 c21 c22 c23 c24 c25 c26 c27 c28 c29 c30 c31 c32 c33 c34 c35 c36 c37
  cases m
  · go_wp2_with fail
    go_ret
    first | exact ⟨rfl, HB1.out⟩ | exact ⟨rfl, hg ▸ HB1.out⟩
  have c0 := HBK1.out.get 0 _ rfl
  have c1 := HBK1.out.get 1 _ rfl
  have c2 := HBK1.out.get 2 _ rfl
  have c3 := HBK1.out.get 3 _ rfl
  have c4 := HBK1.out.get 4 _ rfl
  have c5 := HBK1.out.get 5 _ rfl
  have c6 := HBK1.out.get 6 _ rfl
  have c7 := HBK1.out.get 7 _ rfl
  have c8 := HBK1.out.get 8 _ rfl
  have c9 := HBK1.out.get 9 _ rfl
  have c10 := HBK1.out.get 10 _ rfl
  have c11 := HBK1.out.get 11 _ rfl
  have c12 := HBK1.out.get 12 _ rfl
  have c13 := HBK1.out.get 13 _ rfl
  have c14 := HBK1.out.get 14 _ rfl
  have c15 := HBK1.out.get 15 _ rfl
  have c16 := HBK1.out.get 16 _ rfl
  have c17 := HBK1.out.get 17 _ rfl
  have c18 := HBK1.out.get 18 _ rfl
  have c19 := HBK1.out.get 19 _ rfl
  have c20 := HBK1.out.get 20 _ rfl
  have c21 := HBK1.out.get 21 _ rfl
  have c22 := HBK1.out.get 22 _ rfl
  have c23 := HBK1.out.get 23 _ rfl
  have c24 := HBK1.out.get 24 _ rfl
  have c25 := HBK1.out.get 25 _ rfl
  have c26 := HBK1.out.get 26 _ rfl
  have c27 := HBK1.out.get 27 _ rfl
  have c28 := HBK1.out.get 28 _ rfl
  have c29 := HBK1.out.get 29 _ rfl
  have c30 := HBK1.out.get 30 _ rfl
  have c31 := HBK1.out.get 31 _ rfl
  have c32 := HBK1.out.get 32 _ rfl
  have c33 := HBK1.out.get 33 _ rfl
  have c34 := HBK1.out.get 34 _ rfl
  have c35 := HBK1.out.get 35 _ rfl
  have c36 := HBK1.out.get 36 _ rfl
  have c37 := HBK1.out.get 37 _ rfl
  cases e2
  · go_wp2_with fail
    go_ret
    first | exact ⟨rfl, HB1.out⟩ | exact ⟨rfl, hg ▸ HB1.out⟩
  go_wp2_with fail
  go_ret
  first | exact ⟨rfl, HB1.out⟩ | exact ⟨rfl, hg ▸ HB1.out⟩

end Go.Proofs.Ytkipnkbmpgjcoaa
