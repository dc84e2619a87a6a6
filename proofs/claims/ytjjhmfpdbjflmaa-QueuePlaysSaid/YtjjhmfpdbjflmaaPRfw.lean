/-
  forWhom of the document's lock (stage 14).
-/
import Derived.Test.YtjjhmfpdbjflmaaPRputB
import Derived.Test.YtjjhmfpdbjflmaaORef2
namespace Go.Proofs.Ytjjhmfpdbjflmaa
open Go.RowKit
set_option linter.unusedVariables false

theorem put_len : ∀ (l : List Int) (n : Int), (putR l n).length ≤ l.length + 1
  | [], n => by simp [putR]
  | y :: l, n => by
    unfold putR
    split
    · have := put_len l n; simp; omega
    · split <;> simp
theorem fold_len : ∀ (l a : List Int), (l.foldl putR a).length ≤ a.length + l.length
  | [], a => by simp
  | n :: l, a => by
    have h1 := fold_len l (putR a n)
    have h2 := put_len a n
    simp only [List.foldl_cons, List.length_cons]
    omega
theorem blkH_len (c : Int) (l : PL) (x m : Int) : (blkH c l x m).length ≤ l.length := by
  unfold blkH fsts; rw [List.length_map]; exact List.length_filter_le _ _
theorem blkH_yes {c : Int} {l : PL} {x m : Int} {i : Nat} {p : Int × Int} (h : l[i]? = some p) (h1 : p.1 ≠ x) (h2 : goB c p.2 m = false) (a : List Int) : (blkH c (l.take (i + 1)) x m).foldl putR a = putR ((blkH c (l.take i) x m).foldl putR a) p.1 := by
  unfold blkH
  rw [List.take_add_one, h, List.filter_append]
  simp [fsts, h1, h2]
theorem blkH_no {c : Int} {l : PL} {x m : Int} {i : Nat} {p : Int × Int} (h : l[i]? = some p) (h1 : p.1 = x ∨ goB c p.2 m = true) : blkH c (l.take (i + 1)) x m = blkH c (l.take i) x m := by
  unfold blkH
  rw [List.take_add_one, h, List.filter_append]
  rcases h1 with h1 | h1 <;> simp [fsts, h1]
theorem blkW_yes {c : Int} {l : PL} {x m : Int} {i : Nat} {p : Int × Int} (h : l[i]? = some p) (h1 : p.1 ≠ x) (h2 : goB c (withN 0 p.2) m = false) (a : List Int) : (blkW c (l.take (i + 1)) x m).foldl putR a = putR ((blkW c (l.take i) x m).foldl putR a) p.1 := by
  unfold blkW
  rw [List.take_add_one, h, List.filter_append]
  simp [fsts, h1, h2]
theorem blkW_no {c : Int} {l : PL} {x m : Int} {i : Nat} {p : Int × Int} (h : l[i]? = some p) (h1 : p.1 = x ∨ goB c (withN 0 p.2) m = true) : blkW c (l.take (i + 1)) x m = blkW c (l.take i) x m := by
  unfold blkW
  rw [List.take_add_one, h, List.filter_append]
  rcases h1 with h1 | h1 <;> simp [fsts, h1]

set_option maxRecDepth 100000 in
set_option maxHeartbeats 8000000 in
theorem rfw_ex (w : World) (x : Nat) (a : Option Addr) (n c : Nat) (a2 : Option Addr) (n2 c2 : Nat) (A : Lk) (y m : Int) (ah : Nat) (hah : ah ≤ A.wt.length) (hok : Ok0 A) (hm : U8 m) (hlen : A.hd.length + A.wt.length ≤ 100000) (H : RkM w x (.slice a n c) (.slice a2 n2 c2) A) :
    Calls Try.prog 36 #[.pointer (some ⟨x, 0, none⟩), .int .i64 y, .int .u8 m, .int .i64 ah] w fun e w' => ∃ v, e = .returned v ∧ RowI w' v (forL A.c A.hd (A.wt.take ah) y m) ∧ (∀ k, v.ownBlock = some k → w.heap.size ≤ k) ∧ Below w.heap.size w w' := by
  have mixed : Try.prog.follows Departure.mixedOrders = true := by kernel_rfl
  obtain ⟨hn1, hn2, hln⟩ := H.hd.cap
  obtain ⟨hn3, hn4, hln2⟩ := H.wt.cap
  have hn : n ≤ 100000 := by omega
  have han : ah ≤ 100000 := by omega
  have han2 : ah ≤ n2 := by omega
  obtain ⟨d0, d1, d2, dl⟩ := H.cells
  have HRK := Lib.hid H
  have HLN := Lib.hid hln
  have HLN2 := Lib.hid hln2
  have HOK := Lib.hid hok
  have HM := Lib.hid hm
  have HLEN := Lib.hid hlen
  have HAH := Lib.hid hah
  clear H hln hln2 hok hm hlen hah
  go_enter Try.func36, Try.ntmps36
  go_wp2_with fail
  go_loopg [9, 10] n (fun gg s9 s10 wr => ∃ (i : Nat) (vo : Value), vo = s9 ∧ s10 = .int .i64 i ∧ i ≤ n ∧ n - i ≤ gg ∧ Hid (RowI wr vo ((blkH A.c (A.hd.take i) y m).foldl putR []) ∧ ∀ k, vo.ownBlock = some k → w.heap.size ≤ k) ∧ Hid (Below w.heap.size w wr))
  case atStart => exact ⟨0, _, rfl, rfl, Nat.zero_le _, by omega, Lib.hid ⟨RowF.nil _ _ _ _, fun k hk => by cases hk⟩, Lib.hid (Below.refl _ _)⟩
  case round =>
    obtain ⟨i, vo, rfl, rfl, hi, hgg, HO, HB⟩ := hrel
    obtain ⟨f0, f1, f2, fl⟩ := (HRK.out.below HB.out).cells
    by_cases hlt : i < n
    · have hltz : (i : Int) < (n : Int) := by omega
      obtain ⟨p, hp⟩ := get_pl (l := A.hd) (i := i) (by have := HLN.out; omega)
      have HRW := Lib.hid (HRK.out.below HB.out)
      obtain ⟨b, e1, -⟩ := HRW.out.hd.look hp
      subst e1
      obtain ⟨z, v⟩ := p
      have HP := Lib.hid hp
      have HLT := Lib.hid (And.intro hlt (And.intro hi hgg))
      have hin : i < n := by have := HLN.out; omega
      have hinz : (i : Int) < (n : Int) := by omega
      clear hp hi hgg HRW
      go_upto_region 5 with (fail)
      by_cases hzy : z = y
      · have hne : (z != y) = false := by rw [hzy]; exact bne_self_eq_false y
        have hdr := below_drw wr
        try simp only [List.append_eq, List.cons_append, List.nil_append]
        refine RX.wp_region_plan (fun w w' => Below w.heap.size w w') [.it (.pointer (some ⟨x, 0, none⟩)), .it (.pointer (some ⟨x, 0, none⟩)), .it (.pointer (some ⟨x, 1, none⟩)), .it (.slice (some ⟨b, 0, none⟩) n c), .it (.int .i64 i), .it (.pointer (some ⟨b, i * 3, none⟩)), .it (.pointer (some ⟨b, i * 3, none⟩)), .it (.int .i64 z), .it (.int .i64 y), .it (.bool false), .it (.bool false), .it undef, .it undef, .it undef, .it undef, .it undef, .it undef, .it undef, .it undef, .it undef, .it undef, .it undef, .it undef, .it undef, .it undef, .it undef, .it (.bool false)] (by kernel_rfl) (by kernel_rfl) (fun _ => Below.refl _ _) (fun _ _ _ => below_tr) ?_
        refine RX.seqP_value (fun _ => Below.refl _ _) _ (by first | rfl | simp) (fun w' hw' hctx => by (go_simp); (try first | with_reducible rfl | simp)) ?_
        simp only [Act.put, List.setIfInBounds_toArray, List.set_cons_zero, List.set_cons_succ]
        refine RX.seqP_value (fun _ => Below.refl _ _) _ (by first | rfl | simp) (fun w' hw' hctx => by (go_simp); (try first | with_reducible rfl | simp)) ?_
        simp only [Act.put, List.setIfInBounds_toArray, List.set_cons_zero, List.set_cons_succ]
        refine RX.seqP_value (fun _ => Below.refl _ _) _ (by first | rfl | simp) (fun w' hw' hctx => by (go_simp); (try first | with_reducible rfl | simp)) ?_
        simp only [Act.put, List.setIfInBounds_toArray, List.set_cons_zero, List.set_cons_succ]
        refine RX.seqP_value (fun _ => Below.refl _ _) _ (by first | rfl | simp) (fun w' hw' hctx => ?_) ?_
        · have q := HRK.out.below (below_tr HB.out (below_tr hdr hw'))
          obtain ⟨d0, d1, d2, dl⟩ := q.cells
          obtain ⟨hbl, q0, q1, q2, -⟩ := RowO.cell q.hd HP.out
          simp only [if_true] at q1 q2
          go_simp
          try first | with_reducible rfl | simp
        simp only [Act.put, List.setIfInBounds_toArray, List.set_cons_zero, List.set_cons_succ]
        refine RX.seqP_value (fun _ => Below.refl _ _) _ (by first | rfl | simp) (fun w' hw' hctx => by (go_simp); (try first | with_reducible rfl | simp)) ?_
        simp only [Act.put, List.setIfInBounds_toArray, List.set_cons_zero, List.set_cons_succ]
        refine RX.seqP_value (fun _ => Below.refl _ _) _ (by first | rfl | simp) (fun w' hw' hctx => ?_) ?_
        · have q := HRK.out.below (below_tr HB.out (below_tr hdr hw'))
          obtain ⟨d0, d1, d2, dl⟩ := q.cells
          obtain ⟨hbl, q0, q1, q2, -⟩ := RowO.cell q.hd HP.out
          simp only [if_true] at q1 q2
          go_simp
          try first | with_reducible rfl | simp
        simp only [Act.put, List.setIfInBounds_toArray, List.set_cons_zero, List.set_cons_succ]
        refine RX.seqP_value (fun _ => Below.refl _ _) _ (by first | rfl | simp) (fun w' hw' hctx => ?_) ?_
        · have q := HRK.out.below (below_tr HB.out (below_tr hdr hw'))
          obtain ⟨d0, d1, d2, dl⟩ := q.cells
          obtain ⟨hbl, q0, q1, q2, -⟩ := RowO.cell q.hd HP.out
          simp only [if_true] at q1 q2
          go_simp
          try first | with_reducible rfl | simp
        simp only [Act.put, List.setIfInBounds_toArray, List.set_cons_zero, List.set_cons_succ]
        refine RX.seqP_value (fun _ => Below.refl _ _) _ (by first | rfl | simp) (fun w' hw' hctx => ?_) ?_
        · have q := HRK.out.below (below_tr HB.out (below_tr hdr hw'))
          obtain ⟨d0, d1, d2, dl⟩ := q.cells
          obtain ⟨hbl, q0, q1, q2, -⟩ := RowO.cell q.hd HP.out
          simp only [if_true] at q1 q2
          go_simp
          try first | with_reducible rfl | simp
        simp only [Act.put, List.setIfInBounds_toArray, List.set_cons_zero, List.set_cons_succ]
        refine RX.seqP_value (fun _ => Below.refl _ _) _ (by first | rfl | simp) (fun w' hw' hctx => by (go_simp); (try first | with_reducible rfl | simp)) ?_
        simp only [Act.put, List.setIfInBounds_toArray, List.set_cons_zero, List.set_cons_succ]
        refine RX.seqP_value (fun _ => Below.refl _ _) _ (by first | rfl | simp) (fun w' hw' hctx => by (go_simp); (try first | with_reducible rfl | simp)) ?_
        simp only [Act.put, List.setIfInBounds_toArray, List.set_cons_zero, List.set_cons_succ]
        refine RX.seqP_value (fun _ => Below.refl _ _) _ (by first | rfl | simp) (fun w' hw' hctx => by (go_simp); (try first | with_reducible rfl | simp)) ?_
        simp only [Act.put, List.setIfInBounds_toArray, List.set_cons_zero, List.set_cons_succ]
        refine RX.seqP_skip (by first | rfl | simp) ?_
        simp only [Act.put, List.setIfInBounds_toArray, List.set_cons_zero, List.set_cons_succ]
        refine RX.seqP_skip (by first | rfl | simp) ?_
        simp only [Act.put, List.setIfInBounds_toArray, List.set_cons_zero, List.set_cons_succ]
        refine RX.seqP_skip (by first | rfl | simp) ?_
        simp only [Act.put, List.setIfInBounds_toArray, List.set_cons_zero, List.set_cons_succ]
        refine RX.seqP_skip (by first | rfl | simp) ?_
        simp only [Act.put, List.setIfInBounds_toArray, List.set_cons_zero, List.set_cons_succ]
        refine RX.seqP_skip (by first | rfl | simp) ?_
        simp only [Act.put, List.setIfInBounds_toArray, List.set_cons_zero, List.set_cons_succ]
        refine RX.seqP_skip (by first | rfl | simp) ?_
        simp only [Act.put, List.setIfInBounds_toArray, List.set_cons_zero, List.set_cons_succ]
        refine RX.seqP_skip (by first | rfl | simp) ?_
        simp only [Act.put, List.setIfInBounds_toArray, List.set_cons_zero, List.set_cons_succ]
        refine RX.seqP_skip (by first | rfl | simp) ?_
        simp only [Act.put, List.setIfInBounds_toArray, List.set_cons_zero, List.set_cons_succ]
        refine RX.seqP_skip (by first | rfl | simp) ?_
        simp only [Act.put, List.setIfInBounds_toArray, List.set_cons_zero, List.set_cons_succ]
        refine RX.seqP_skip (by first | rfl | simp) ?_
        simp only [Act.put, List.setIfInBounds_toArray, List.set_cons_zero, List.set_cons_succ]
        refine RX.seqP_skip (by first | rfl | simp) ?_
        simp only [Act.put, List.setIfInBounds_toArray, List.set_cons_zero, List.set_cons_succ]
        refine RX.seqP_skip (by first | rfl | simp) ?_
        simp only [Act.put, List.setIfInBounds_toArray, List.set_cons_zero, List.set_cons_succ]
        refine RX.seqP_skip (by first | rfl | simp) ?_
        simp only [Act.put, List.setIfInBounds_toArray, List.set_cons_zero, List.set_cons_succ]
        refine RX.seqP_skip (by first | rfl | simp) ?_
        simp only [Act.put, List.setIfInBounds_toArray, List.set_cons_zero, List.set_cons_succ]
        refine RX.seqP_skip (by first | rfl | simp) ?_
        simp only [Act.put, List.setIfInBounds_toArray, List.set_cons_zero, List.set_cons_succ]
        refine RX.seqP_value (fun _ => Below.refl _ _) _ (by first | rfl | simp) (fun w' hw' hctx => by (go_simp); (try first | with_reducible rfl | simp)) ?_
        simp only [Act.put, List.setIfInBounds_toArray, List.set_cons_zero, List.set_cons_succ]
        refine RX.seqP_nil (fun w2 hR hctx _ => ?_)
        have hb2 := below_tr hdr hR
        clear hctx hR
        have HBn := Lib.hid (below_tr HB.out hb2)
        have HOn : Hid (RowI w2 vo ((blkH A.c (A.hd.take (i + 1)) y m).foldl putR []) ∧ ∀ k, vo.ownBlock = some k → w.heap.size ≤ k) := Lib.hid ⟨by rw [blkH_no HP.out (.inl hzy)]; exact RowF.below HO.out.1 hb2, HO.out.2⟩
        clear hb2 hdr HO HB
        go_wp2_with fail
        go_roundg (n - (i + 1))
        case measure => have := HLT.out; omega
        case rel => exact ⟨i + 1, vo, rfl, by go_num, by have := HLT.out; omega, Nat.le_refl _, HOn, HBn⟩
      · have hne : (z != y) = true := by simpa using hzy
        have HU : Hid (U16 v) := Lib.hid (HOK.out.held _ (List.mem_of_getElem? HP.out)).2.2.1
        obtain ⟨g, hg⟩ : ∃ g, goB A.c v m = g := ⟨_, rfl⟩
        have HG := Lib.hid hg
        have HZY := Lib.hid hzy
        clear hg hzy
        have hdr := below_drw wr
        try simp only [List.append_eq, List.cons_append, List.nil_append]
        refine RX.wp_region_plan (fun w w' => Below w.heap.size w w') [.it (.pointer (some ⟨x, 0, none⟩)), .it (.pointer (some ⟨x, 0, none⟩)), .it (.pointer (some ⟨x, 1, none⟩)), .it (.slice (some ⟨b, 0, none⟩) n c), .it (.int .i64 i), .it (.pointer (some ⟨b, i * 3, none⟩)), .it (.pointer (some ⟨b, i * 3, none⟩)), .it (.int .i64 z), .it (.int .i64 y), .it (.bool true), .it (.bool true), .it (.pointer (some ⟨x, 0, none⟩)), .it (.pointer (some ⟨x, 0, none⟩)), .it (.pointer (some ⟨x, 0, none⟩)), .it (.int .u8 A.c), .it (.pointer (some ⟨x, 0, none⟩)), .it (.pointer (some ⟨x, 0, none⟩)), .it (.pointer (some ⟨x, 1, none⟩)), .it (.slice (some ⟨b, 0, none⟩) n c), .it (.int .i64 i), .it (.pointer (some ⟨b, i * 3, none⟩)), .it (.pointer (some ⟨b, i * 3 + 1, none⟩)), .it (.int .u16 v), .it (.int .u8 m), .it (.bool g), .it (.bool (!g)), .it (.bool (!g))] (by kernel_rfl) (by kernel_rfl) (fun _ => Below.refl _ _) (fun _ _ _ => below_tr) ?_
        refine RX.seqP_value (fun _ => Below.refl _ _) _ (by first | rfl | simp) (fun w' hw' hctx => by (go_simp); (try first | with_reducible rfl | simp)) ?_
        simp only [Act.put, List.setIfInBounds_toArray, List.set_cons_zero, List.set_cons_succ]
        refine RX.seqP_value (fun _ => Below.refl _ _) _ (by first | rfl | simp) (fun w' hw' hctx => by (go_simp); (try first | with_reducible rfl | simp)) ?_
        simp only [Act.put, List.setIfInBounds_toArray, List.set_cons_zero, List.set_cons_succ]
        refine RX.seqP_value (fun _ => Below.refl _ _) _ (by first | rfl | simp) (fun w' hw' hctx => by (go_simp); (try first | with_reducible rfl | simp)) ?_
        simp only [Act.put, List.setIfInBounds_toArray, List.set_cons_zero, List.set_cons_succ]
        refine RX.seqP_value (fun _ => Below.refl _ _) _ (by first | rfl | simp) (fun w' hw' hctx => ?_) ?_
        · have q := HRK.out.below (below_tr HB.out (below_tr hdr hw'))
          obtain ⟨d0, d1, d2, dl⟩ := q.cells
          obtain ⟨hbl, q0, q1, q2, -⟩ := RowO.cell q.hd HP.out
          simp only [if_true] at q1 q2
          go_simp
          try first | with_reducible rfl | simp
        simp only [Act.put, List.setIfInBounds_toArray, List.set_cons_zero, List.set_cons_succ]
        refine RX.seqP_value (fun _ => Below.refl _ _) _ (by first | rfl | simp) (fun w' hw' hctx => by (go_simp); (try first | with_reducible rfl | simp)) ?_
        simp only [Act.put, List.setIfInBounds_toArray, List.set_cons_zero, List.set_cons_succ]
        refine RX.seqP_value (fun _ => Below.refl _ _) _ (by first | rfl | simp) (fun w' hw' hctx => ?_) ?_
        · have q := HRK.out.below (below_tr HB.out (below_tr hdr hw'))
          obtain ⟨d0, d1, d2, dl⟩ := q.cells
          obtain ⟨hbl, q0, q1, q2, -⟩ := RowO.cell q.hd HP.out
          simp only [if_true] at q1 q2
          go_simp
          try first | with_reducible rfl | simp
        simp only [Act.put, List.setIfInBounds_toArray, List.set_cons_zero, List.set_cons_succ]
        refine RX.seqP_value (fun _ => Below.refl _ _) _ (by first | rfl | simp) (fun w' hw' hctx => ?_) ?_
        · have q := HRK.out.below (below_tr HB.out (below_tr hdr hw'))
          obtain ⟨d0, d1, d2, dl⟩ := q.cells
          obtain ⟨hbl, q0, q1, q2, -⟩ := RowO.cell q.hd HP.out
          simp only [if_true] at q1 q2
          go_simp
          try first | with_reducible rfl | simp
        simp only [Act.put, List.setIfInBounds_toArray, List.set_cons_zero, List.set_cons_succ]
        refine RX.seqP_value (fun _ => Below.refl _ _) _ (by first | rfl | simp) (fun w' hw' hctx => ?_) ?_
        · have q := HRK.out.below (below_tr HB.out (below_tr hdr hw'))
          obtain ⟨d0, d1, d2, dl⟩ := q.cells
          obtain ⟨hbl, q0, q1, q2, -⟩ := RowO.cell q.hd HP.out
          simp only [if_true] at q1 q2
          go_simp
          try first | with_reducible rfl | simp
        simp only [Act.put, List.setIfInBounds_toArray, List.set_cons_zero, List.set_cons_succ]
        refine RX.seqP_value (fun _ => Below.refl _ _) _ (by first | rfl | simp) (fun w' hw' hctx => by (go_simp); (try first | with_reducible rfl | simp)) ?_
        simp only [Act.put, List.setIfInBounds_toArray, List.set_cons_zero, List.set_cons_succ]
        refine RX.seqP_value (fun _ => Below.refl _ _) _ (by first | rfl | simp) (fun w' hw' hctx => by (go_simp); (try first | with_reducible rfl | simp)) ?_
        simp only [Act.put, List.setIfInBounds_toArray, List.set_cons_zero, List.set_cons_succ]
        refine RX.seqP_value (fun _ => Below.refl _ _) _ (by first | rfl | simp) (fun w' hw' hctx => by (go_simp); (try first | with_reducible rfl | simp)) ?_
        simp only [Act.put, List.setIfInBounds_toArray, List.set_cons_zero, List.set_cons_succ]
        refine RX.seqP_value (fun _ => Below.refl _ _) _ (by first | rfl | simp) (fun w' hw' hctx => by (go_simp); (try first | with_reducible rfl | simp)) ?_
        simp only [Act.put, List.setIfInBounds_toArray, List.set_cons_zero, List.set_cons_succ]
        refine RX.seqP_value (fun _ => Below.refl _ _) _ (by first | rfl | simp) (fun w' hw' hctx => by (go_simp); (try first | with_reducible rfl | simp)) ?_
        simp only [Act.put, List.setIfInBounds_toArray, List.set_cons_zero, List.set_cons_succ]
        refine RX.seqP_value (fun _ => Below.refl _ _) _ (by first | rfl | simp) (fun w' hw' hctx => by (go_simp); (try first | with_reducible rfl | simp)) ?_
        simp only [Act.put, List.setIfInBounds_toArray, List.set_cons_zero, List.set_cons_succ]
        refine RX.seqP_value (fun _ => Below.refl _ _) _ (by first | rfl | simp) (fun w' hw' hctx => ?_) ?_
        · have q := HRK.out.below (below_tr HB.out (below_tr hdr hw'))
          obtain ⟨d0, d1, d2, dl⟩ := q.cells
          obtain ⟨hbl, q0, q1, q2, -⟩ := RowO.cell q.hd HP.out
          simp only [if_true] at q1 q2
          go_simp
          try first | with_reducible rfl | simp
        simp only [Act.put, List.setIfInBounds_toArray, List.set_cons_zero, List.set_cons_succ]
        refine RX.seqP_value (fun _ => Below.refl _ _) _ (by first | rfl | simp) (fun w' hw' hctx => by (go_simp); (try first | with_reducible rfl | simp)) ?_
        simp only [Act.put, List.setIfInBounds_toArray, List.set_cons_zero, List.set_cons_succ]
        refine RX.seqP_value (fun _ => Below.refl _ _) _ (by first | rfl | simp) (fun w' hw' hctx => by (go_simp); (try first | with_reducible rfl | simp)) ?_
        simp only [Act.put, List.setIfInBounds_toArray, List.set_cons_zero, List.set_cons_succ]
        refine RX.seqP_value (fun _ => Below.refl _ _) _ (by first | rfl | simp) (fun w' hw' hctx => by (go_simp); (try first | with_reducible rfl | simp)) ?_
        simp only [Act.put, List.setIfInBounds_toArray, List.set_cons_zero, List.set_cons_succ]
        refine RX.seqP_value (fun _ => Below.refl _ _) _ (by first | rfl | simp) (fun w' hw' hctx => ?_) ?_
        · have q := HRK.out.below (below_tr HB.out (below_tr hdr hw'))
          obtain ⟨d0, d1, d2, dl⟩ := q.cells
          obtain ⟨hbl, q0, q1, q2, -⟩ := RowO.cell q.hd HP.out
          simp only [if_true] at q1 q2
          go_simp
          try first | with_reducible rfl | simp
        simp only [Act.put, List.setIfInBounds_toArray, List.set_cons_zero, List.set_cons_succ]
        refine RX.seqP_value (fun _ => Below.refl _ _) _ (by first | rfl | simp) (fun w' hw' hctx => by (go_simp); (try first | with_reducible rfl | simp)) ?_
        simp only [Act.put, List.setIfInBounds_toArray, List.set_cons_zero, List.set_cons_succ]
        refine RX.seqP_value (fun _ => Below.refl _ _) _ (by first | rfl | simp) (fun w' hw' hctx => ?_) ?_
        · have q := HRK.out.below (below_tr HB.out (below_tr hdr hw'))
          obtain ⟨d0, d1, d2, dl⟩ := q.cells
          obtain ⟨hbl, q0, q1, q2, -⟩ := RowO.cell q.hd HP.out
          simp only [if_true] at q1 q2
          go_simp
          try first | with_reducible rfl | simp
        simp only [Act.put, List.setIfInBounds_toArray, List.set_cons_zero, List.set_cons_succ]
        refine RX.seqP_value (fun _ => Below.refl _ _) _ (by first | rfl | simp) (fun w' hw' hctx => ?_) ?_
        · have q := HRK.out.below (below_tr HB.out (below_tr hdr hw'))
          obtain ⟨d0, d1, d2, dl⟩ := q.cells
          obtain ⟨hbl, q0, q1, q2, -⟩ := RowO.cell q.hd HP.out
          simp only [if_true] at q1 q2
          go_simp
          try first | with_reducible rfl | simp
        simp only [Act.put, List.setIfInBounds_toArray, List.set_cons_zero, List.set_cons_succ]
        refine RX.seqP_value (fun _ => Below.refl _ _) _ (by first | rfl | simp) (fun w' hw' hctx => ?_) ?_
        · have q := HRK.out.below (below_tr HB.out (below_tr hdr hw'))
          obtain ⟨d0, d1, d2, dl⟩ := q.cells
          obtain ⟨hbl, q0, q1, q2, -⟩ := RowO.cell q.hd HP.out
          simp only [if_true] at q1 q2
          go_simp
          try first | with_reducible rfl | simp
        simp only [Act.put, List.setIfInBounds_toArray, List.set_cons_zero, List.set_cons_succ]
        refine RX.seqP_value (fun _ => Below.refl _ _) _ (by first | rfl | simp) (fun w' hw' hctx => by (go_simp); (try first | with_reducible rfl | simp)) ?_
        simp only [Act.put, List.setIfInBounds_toArray, List.set_cons_zero, List.set_cons_succ]
        refine RX.seqP_call (58) #[.int .u8 A.c, .int .u16 v, .int .u8 m] (.bool g) (by first | rfl | simp) (fun w' hw' hctx => ?_) (fun w' hw' hctx => rgo_is A.c v m HM.out HU.out w' g HG.out) ?_
        · go_simp
        simp only [Act.put, List.setIfInBounds_toArray, List.set_cons_zero, List.set_cons_succ]
        refine RX.seqP_value (fun _ => Below.refl _ _) _ (by first | rfl | simp) (fun w' hw' hctx => by (go_simp); (try first | with_reducible rfl | simp)) ?_
        simp only [Act.put, List.setIfInBounds_toArray, List.set_cons_zero, List.set_cons_succ]
        refine RX.seqP_value (fun _ => Below.refl _ _) _ (by first | rfl | simp) (fun w' hw' hctx => by (go_simp); (try first | with_reducible rfl | simp)) ?_
        simp only [Act.put, List.setIfInBounds_toArray, List.set_cons_zero, List.set_cons_succ]
        refine RX.seqP_nil (fun w2 hR hctx _ => ?_)
        have hb2 := below_tr hdr hR
        clear hctx hR
        have HBn := Lib.hid (below_tr HB.out hb2)
        cases g with
        | true =>
          have HOn : Hid (RowI w2 vo ((blkH A.c (A.hd.take (i + 1)) y m).foldl putR []) ∧ ∀ k, vo.ownBlock = some k → w.heap.size ≤ k) := Lib.hid ⟨by rw [blkH_no HP.out (.inr HG.out)]; exact RowF.below HO.out.1 hb2, HO.out.2⟩
          clear hb2 hdr HO HB
          go_wp2_with fail
          go_roundg (n - (i + 1))
          case measure => have := HLT.out; omega
          case rel => exact ⟨i + 1, vo, rfl, by go_num, by have := HLT.out; omega, Nat.le_refl _, HOn, HBn⟩
        | false =>
          have q := HRK.out.below HBn.out
          obtain ⟨d0, d1, d2, dl⟩ := q.cells
          obtain ⟨hbl, q0, -, -, -⟩ := RowO.cell q.hd HP.out
          have hcon := rput_is w2 vo _ z (by have h1 := fold_len (blkH A.c (A.hd.take i) y m) []; have h2 := blkH_len A.c (A.hd.take i) y m; have h3 : (A.hd.take i).length ≤ A.hd.length := List.length_take_le' _ _; have h4 := HLEN.out; simp only [List.length_nil] at h1; omega) (RowF.below HO.out.1 hb2)
          clear hb2 hdr q
          go_wp2_with fail
          refine (show Calls Try.prog _ _ _ _ from hcon).mono ?_
          rintro e w3 ⟨v', rfl, h1, h2, h3⟩
          have HOn : Hid (RowI w3 v' ((blkH A.c (A.hd.take (i + 1)) y m).foldl putR []) ∧ ∀ k, v'.ownBlock = some k → w.heap.size ≤ k) := Lib.hid ⟨by rw [blkH_yes HP.out HZY.out HG.out]; exact h1, fun k hk => (h2 k hk).elim (HO.out.2 k) (fun e => Nat.le_trans HBn.out.size e)⟩
          have HBm := Lib.hid (below_tr HBn.out h3)
          clear hcon h1 h2 h3 HO HB HBn d0 d1 d2 dl hbl q0
          go_wp2_with fail
          go_roundg (n - (i + 1))
          case measure => have := HLT.out; omega
          case rel => exact ⟨i + 1, v', rfl, by go_num, by have := HLT.out; omega, Nat.le_refl _, HOn, HBm⟩
    · have hltz : ¬ (i : Int) < (n : Int) := by omega
      have hin : i = n := by omega
      obtain ⟨L0, hL0⟩ : ∃ L, (blkH A.c A.hd y m).foldl putR [] = L := ⟨_, rfl⟩
      have HO2 : Hid (RowI wr vo ((blkW A.c (A.wt.take 0) y m).foldl putR L0) ∧ ∀ k, vo.ownBlock = some k → w.heap.size ≤ k) := Lib.hid ⟨by
        have h1 := HO.out.1
        rw [hin, HLN.out, List.take_length, hL0] at h1
        exact h1, HO.out.2⟩
      have HB2 := HB
      have HL0 : Hid (L0.length ≤ A.hd.length) := Lib.hid (by
        have h1 := fold_len (blkH A.c A.hd y m) []
        have h2 := blkH_len A.c A.hd y m
        rw [hL0] at h1
        simp only [List.length_nil] at h1
        omega)
      have HF0 := Lib.hid hL0
      clear hin hlt hi hgg HO HB hL0
      obtain ⟨hv, hhv⟩ : ∃ hv, heldL A.hd y = hv := ⟨_, rfl⟩
      by_cases hz : hv = 0
      · subst hz
        have H0 := Lib.hid hhv
        clear hhv
        go_wp2_with fail
        go_loopg [9, 11] ah (fun gg s9 s11 wr => ∃ (i : Nat) (vo : Value), vo = s9 ∧ s11 = .int .i64 i ∧ i ≤ ah ∧ ah - i ≤ gg ∧ Hid (RowI wr vo ((blkW A.c (A.wt.take i) y m).foldl putR L0) ∧ ∀ k, vo.ownBlock = some k → w.heap.size ≤ k) ∧ Hid (Below w.heap.size w wr))
        case atStart => exact ⟨0, _, rfl, rfl, Nat.zero_le _, by omega, HO2, HB2⟩
        case round =>
          obtain ⟨i, vo, rfl, rfl, hi, hgg, HO, HB⟩ := hrel
          obtain ⟨f0, f1, f2, fl⟩ := (HRK.out.below HB.out).cells
          clear HO2 HB2
          by_cases hlt : i < ah
          · have hltz : (i : Int) < (ah : Int) := by omega
            have hcon0 := rheld_is wr x _ _ A y (HRK.out.below HB.out) 0 H0.out
            go_wp2_with fail
            refine (show Calls Try.prog _ _ _ _ from hcon0).mono ?_
            rintro e wr2 ⟨rfl, hb0⟩
            have HO1 : Hid (RowI wr2 vo ((blkW A.c (A.wt.take i) y m).foldl putR L0) ∧ ∀ k, vo.ownBlock = some k → w.heap.size ≤ k) := Lib.hid ⟨RowF.below HO.out.1 hb0, HO.out.2⟩
            have HB1 := Lib.hid (below_tr HB.out hb0)
            clear f0 f1 f2 fl
            obtain ⟨f0, f1, f2, fl⟩ := (HRK.out.below HB1.out).cells
            clear hcon0 hb0 HO HB
            obtain ⟨p, hp⟩ := get_pl (l := A.wt) (i := i) (by have := HAH.out; omega)
            have HRW := Lib.hid (HRK.out.below HB1.out)
            obtain ⟨b, e1, -⟩ := HRW.out.wt.look hp
            subst e1
            obtain ⟨z, v⟩ := p
            have HP := Lib.hid hp
            have HLT := Lib.hid (And.intro hlt (And.intro hi hgg))
            have hin : i < n2 := by omega
            have hinz : (i : Int) < (n2 : Int) := by omega
            clear hp hi hgg HRW
            go_upto_region 10 with (fail)
            by_cases hzy : z = y
            · have hne : (z != y) = false := by rw [hzy]; exact bne_self_eq_false y
              have hdr := below_drw wr2
              try simp only [List.append_eq, List.cons_append, List.nil_append]
              refine RX.wp_region_plan (fun w w' => Below w.heap.size w w') [.it (.pointer (some ⟨x, 0, none⟩)), .it (.pointer (some ⟨x, 0, none⟩)), .it (.pointer (some ⟨x, 2, none⟩)), .it (.slice (some ⟨b, 0, none⟩) n2 c2), .it (.int .i64 i), .it (.pointer (some ⟨b, i * 3, none⟩)), .it (.pointer (some ⟨b, i * 3, none⟩)), .it (.int .i64 z), .it (.int .i64 y), .it (.bool false), .it (.bool false), .it undef, .it undef, .it undef, .it undef, .it undef, .it undef, .it undef, .it undef, .it undef, .it undef, .it undef, .it undef, .it undef, .it undef, .it undef, .it undef, .it (.bool false)] (by kernel_rfl) (by kernel_rfl) (fun _ => Below.refl _ _) (fun _ _ _ => below_tr) ?_
              refine RX.seqP_value (fun _ => Below.refl _ _) _ (by first | rfl | simp) (fun w' hw' hctx => by (go_simp); (try first | with_reducible rfl | simp)) ?_
              simp only [Act.put, List.setIfInBounds_toArray, List.set_cons_zero, List.set_cons_succ]
              refine RX.seqP_value (fun _ => Below.refl _ _) _ (by first | rfl | simp) (fun w' hw' hctx => by (go_simp); (try first | with_reducible rfl | simp)) ?_
              simp only [Act.put, List.setIfInBounds_toArray, List.set_cons_zero, List.set_cons_succ]
              refine RX.seqP_value (fun _ => Below.refl _ _) _ (by first | rfl | simp) (fun w' hw' hctx => by (go_simp); (try first | with_reducible rfl | simp)) ?_
              simp only [Act.put, List.setIfInBounds_toArray, List.set_cons_zero, List.set_cons_succ]
              refine RX.seqP_value (fun _ => Below.refl _ _) _ (by first | rfl | simp) (fun w' hw' hctx => ?_) ?_
              · have q := HRK.out.below (below_tr HB1.out (below_tr hdr hw'))
                obtain ⟨d0, d1, d2, dl⟩ := q.cells
                obtain ⟨hbl, q0, q1, q2, -⟩ := RowO.cell q.wt HP.out
                simp only [Bool.false_eq_true, if_false] at q1 q2
                go_simp
                try first | with_reducible rfl | simp
              simp only [Act.put, List.setIfInBounds_toArray, List.set_cons_zero, List.set_cons_succ]
              refine RX.seqP_value (fun _ => Below.refl _ _) _ (by first | rfl | simp) (fun w' hw' hctx => by (go_simp); (try first | with_reducible rfl | simp)) ?_
              simp only [Act.put, List.setIfInBounds_toArray, List.set_cons_zero, List.set_cons_succ]
              refine RX.seqP_value (fun _ => Below.refl _ _) _ (by first | rfl | simp) (fun w' hw' hctx => ?_) ?_
              · have q := HRK.out.below (below_tr HB1.out (below_tr hdr hw'))
                obtain ⟨d0, d1, d2, dl⟩ := q.cells
                obtain ⟨hbl, q0, q1, q2, -⟩ := RowO.cell q.wt HP.out
                simp only [Bool.false_eq_true, if_false] at q1 q2
                go_simp
                try first | with_reducible rfl | simp
              simp only [Act.put, List.setIfInBounds_toArray, List.set_cons_zero, List.set_cons_succ]
              refine RX.seqP_value (fun _ => Below.refl _ _) _ (by first | rfl | simp) (fun w' hw' hctx => ?_) ?_
              · have q := HRK.out.below (below_tr HB1.out (below_tr hdr hw'))
                obtain ⟨d0, d1, d2, dl⟩ := q.cells
                obtain ⟨hbl, q0, q1, q2, -⟩ := RowO.cell q.wt HP.out
                simp only [Bool.false_eq_true, if_false] at q1 q2
                go_simp
                try first | with_reducible rfl | simp
              simp only [Act.put, List.setIfInBounds_toArray, List.set_cons_zero, List.set_cons_succ]
              refine RX.seqP_value (fun _ => Below.refl _ _) _ (by first | rfl | simp) (fun w' hw' hctx => ?_) ?_
              · have q := HRK.out.below (below_tr HB1.out (below_tr hdr hw'))
                obtain ⟨d0, d1, d2, dl⟩ := q.cells
                obtain ⟨hbl, q0, q1, q2, -⟩ := RowO.cell q.wt HP.out
                simp only [Bool.false_eq_true, if_false] at q1 q2
                go_simp
                try first | with_reducible rfl | simp
              simp only [Act.put, List.setIfInBounds_toArray, List.set_cons_zero, List.set_cons_succ]
              refine RX.seqP_value (fun _ => Below.refl _ _) _ (by first | rfl | simp) (fun w' hw' hctx => by (go_simp); (try first | with_reducible rfl | simp)) ?_
              simp only [Act.put, List.setIfInBounds_toArray, List.set_cons_zero, List.set_cons_succ]
              refine RX.seqP_value (fun _ => Below.refl _ _) _ (by first | rfl | simp) (fun w' hw' hctx => by (go_simp); (try first | with_reducible rfl | simp)) ?_
              simp only [Act.put, List.setIfInBounds_toArray, List.set_cons_zero, List.set_cons_succ]
              refine RX.seqP_value (fun _ => Below.refl _ _) _ (by first | rfl | simp) (fun w' hw' hctx => by (go_simp); (try first | with_reducible rfl | simp)) ?_
              simp only [Act.put, List.setIfInBounds_toArray, List.set_cons_zero, List.set_cons_succ]
              refine RX.seqP_skip (by first | rfl | simp) ?_
              simp only [Act.put, List.setIfInBounds_toArray, List.set_cons_zero, List.set_cons_succ]
              refine RX.seqP_skip (by first | rfl | simp) ?_
              simp only [Act.put, List.setIfInBounds_toArray, List.set_cons_zero, List.set_cons_succ]
              refine RX.seqP_skip (by first | rfl | simp) ?_
              simp only [Act.put, List.setIfInBounds_toArray, List.set_cons_zero, List.set_cons_succ]
              refine RX.seqP_skip (by first | rfl | simp) ?_
              simp only [Act.put, List.setIfInBounds_toArray, List.set_cons_zero, List.set_cons_succ]
              refine RX.seqP_skip (by first | rfl | simp) ?_
              simp only [Act.put, List.setIfInBounds_toArray, List.set_cons_zero, List.set_cons_succ]
              refine RX.seqP_skip (by first | rfl | simp) ?_
              simp only [Act.put, List.setIfInBounds_toArray, List.set_cons_zero, List.set_cons_succ]
              refine RX.seqP_skip (by first | rfl | simp) ?_
              simp only [Act.put, List.setIfInBounds_toArray, List.set_cons_zero, List.set_cons_succ]
              refine RX.seqP_skip (by first | rfl | simp) ?_
              simp only [Act.put, List.setIfInBounds_toArray, List.set_cons_zero, List.set_cons_succ]
              refine RX.seqP_skip (by first | rfl | simp) ?_
              simp only [Act.put, List.setIfInBounds_toArray, List.set_cons_zero, List.set_cons_succ]
              refine RX.seqP_skip (by first | rfl | simp) ?_
              simp only [Act.put, List.setIfInBounds_toArray, List.set_cons_zero, List.set_cons_succ]
              refine RX.seqP_skip (by first | rfl | simp) ?_
              simp only [Act.put, List.setIfInBounds_toArray, List.set_cons_zero, List.set_cons_succ]
              refine RX.seqP_skip (by first | rfl | simp) ?_
              simp only [Act.put, List.setIfInBounds_toArray, List.set_cons_zero, List.set_cons_succ]
              refine RX.seqP_skip (by first | rfl | simp) ?_
              simp only [Act.put, List.setIfInBounds_toArray, List.set_cons_zero, List.set_cons_succ]
              refine RX.seqP_skip (by first | rfl | simp) ?_
              simp only [Act.put, List.setIfInBounds_toArray, List.set_cons_zero, List.set_cons_succ]
              refine RX.seqP_skip (by first | rfl | simp) ?_
              simp only [Act.put, List.setIfInBounds_toArray, List.set_cons_zero, List.set_cons_succ]
              refine RX.seqP_skip (by first | rfl | simp) ?_
              simp only [Act.put, List.setIfInBounds_toArray, List.set_cons_zero, List.set_cons_succ]
              refine RX.seqP_value (fun _ => Below.refl _ _) _ (by first | rfl | simp) (fun w' hw' hctx => by (go_simp); (try first | with_reducible rfl | simp)) ?_
              simp only [Act.put, List.setIfInBounds_toArray, List.set_cons_zero, List.set_cons_succ]
              refine RX.seqP_nil (fun w2 hR hctx _ => ?_)
              have hb2 := below_tr hdr hR
              clear hctx hR
              have HBn := Lib.hid (below_tr HB1.out hb2)
              have HOn : Hid (RowI w2 vo ((blkW A.c (A.wt.take (i + 1)) y m).foldl putR L0) ∧ ∀ k, vo.ownBlock = some k → w.heap.size ≤ k) := Lib.hid ⟨by rw [blkW_no HP.out (.inl hzy)]; exact RowF.below HO1.out.1 hb2, HO1.out.2⟩
              clear hb2 hdr HO1 HB1
              go_wp2_with fail
              go_roundg (ah - (i + 1))
              case measure => have := HLT.out; omega
              case rel => exact ⟨i + 1, vo, rfl, by go_num, by have := HLT.out; omega, Nat.le_refl _, HOn, HBn⟩
            · have hne : (z != y) = true := by simpa using hzy
              have hmv := (HOK.out.wts _ (List.mem_of_getElem? HP.out)).2.2
              have HV : Hid (U8 v ∧ v < 16) := Lib.hid ⟨may_u8 hmv, by have := may_8 hmv; omega⟩
              obtain ⟨u, hu⟩ : ∃ u, withN 0 v = u := ⟨_, rfl⟩
              have HU0 := Lib.hid hu
              have HU : Hid (U16 u) := Lib.hid (by rw [← hu]; exact with_u16 u16_0 HV.out.1.1)
              obtain ⟨g, hg⟩ : ∃ g, goB A.c u m = g := ⟨_, rfl⟩
              have HG0 : Hid (goB A.c (withN 0 v) m = g) := Lib.hid (by rw [hu]; exact hg)
              clear hmv hu
              have HG := Lib.hid hg
              have HZY := Lib.hid hzy
              clear hg hzy
              have hdr := below_drw wr2
              try simp only [List.append_eq, List.cons_append, List.nil_append]
              refine RX.wp_region_plan (fun w w' => Below w.heap.size w w') [.it (.pointer (some ⟨x, 0, none⟩)), .it (.pointer (some ⟨x, 0, none⟩)), .it (.pointer (some ⟨x, 2, none⟩)), .it (.slice (some ⟨b, 0, none⟩) n2 c2), .it (.int .i64 i), .it (.pointer (some ⟨b, i * 3, none⟩)), .it (.pointer (some ⟨b, i * 3, none⟩)), .it (.int .i64 z), .it (.int .i64 y), .it (.bool true), .it (.bool true), .it (.pointer (some ⟨x, 0, none⟩)), .it (.pointer (some ⟨x, 0, none⟩)), .it (.pointer (some ⟨x, 0, none⟩)), .it (.int .u8 A.c), .it (.pointer (some ⟨x, 0, none⟩)), .it (.pointer (some ⟨x, 0, none⟩)), .it (.pointer (some ⟨x, 2, none⟩)), .it (.slice (some ⟨b, 0, none⟩) n2 c2), .it (.int .i64 i), .it (.pointer (some ⟨b, i * 3, none⟩)), .it (.pointer (some ⟨b, i * 3 + 2, none⟩)), .it (.int .u8 v), .it (.int .u16 u), .it (.int .u8 m), .it (.bool g), .it (.bool (!g)), .it (.bool (!g))] (by kernel_rfl) (by kernel_rfl) (fun _ => Below.refl _ _) (fun _ _ _ => below_tr) ?_
              refine RX.seqP_value (fun _ => Below.refl _ _) _ (by first | rfl | simp) (fun w' hw' hctx => by (go_simp); (try first | with_reducible rfl | simp)) ?_
              simp only [Act.put, List.setIfInBounds_toArray, List.set_cons_zero, List.set_cons_succ]
              refine RX.seqP_value (fun _ => Below.refl _ _) _ (by first | rfl | simp) (fun w' hw' hctx => by (go_simp); (try first | with_reducible rfl | simp)) ?_
              simp only [Act.put, List.setIfInBounds_toArray, List.set_cons_zero, List.set_cons_succ]
              refine RX.seqP_value (fun _ => Below.refl _ _) _ (by first | rfl | simp) (fun w' hw' hctx => by (go_simp); (try first | with_reducible rfl | simp)) ?_
              simp only [Act.put, List.setIfInBounds_toArray, List.set_cons_zero, List.set_cons_succ]
              refine RX.seqP_value (fun _ => Below.refl _ _) _ (by first | rfl | simp) (fun w' hw' hctx => ?_) ?_
              · have q := HRK.out.below (below_tr HB1.out (below_tr hdr hw'))
                obtain ⟨d0, d1, d2, dl⟩ := q.cells
                obtain ⟨hbl, q0, q1, q2, -⟩ := RowO.cell q.wt HP.out
                simp only [Bool.false_eq_true, if_false] at q1 q2
                go_simp
                try first | with_reducible rfl | simp
              simp only [Act.put, List.setIfInBounds_toArray, List.set_cons_zero, List.set_cons_succ]
              refine RX.seqP_value (fun _ => Below.refl _ _) _ (by first | rfl | simp) (fun w' hw' hctx => by (go_simp); (try first | with_reducible rfl | simp)) ?_
              simp only [Act.put, List.setIfInBounds_toArray, List.set_cons_zero, List.set_cons_succ]
              refine RX.seqP_value (fun _ => Below.refl _ _) _ (by first | rfl | simp) (fun w' hw' hctx => ?_) ?_
              · have q := HRK.out.below (below_tr HB1.out (below_tr hdr hw'))
                obtain ⟨d0, d1, d2, dl⟩ := q.cells
                obtain ⟨hbl, q0, q1, q2, -⟩ := RowO.cell q.wt HP.out
                simp only [Bool.false_eq_true, if_false] at q1 q2
                go_simp
                try first | with_reducible rfl | simp
              simp only [Act.put, List.setIfInBounds_toArray, List.set_cons_zero, List.set_cons_succ]
              refine RX.seqP_value (fun _ => Below.refl _ _) _ (by first | rfl | simp) (fun w' hw' hctx => ?_) ?_
              · have q := HRK.out.below (below_tr HB1.out (below_tr hdr hw'))
                obtain ⟨d0, d1, d2, dl⟩ := q.cells
                obtain ⟨hbl, q0, q1, q2, -⟩ := RowO.cell q.wt HP.out
                simp only [Bool.false_eq_true, if_false] at q1 q2
                go_simp
                try first | with_reducible rfl | simp
              simp only [Act.put, List.setIfInBounds_toArray, List.set_cons_zero, List.set_cons_succ]
              refine RX.seqP_value (fun _ => Below.refl _ _) _ (by first | rfl | simp) (fun w' hw' hctx => ?_) ?_
              · have q := HRK.out.below (below_tr HB1.out (below_tr hdr hw'))
                obtain ⟨d0, d1, d2, dl⟩ := q.cells
                obtain ⟨hbl, q0, q1, q2, -⟩ := RowO.cell q.wt HP.out
                simp only [Bool.false_eq_true, if_false] at q1 q2
                go_simp
                try first | with_reducible rfl | simp
              simp only [Act.put, List.setIfInBounds_toArray, List.set_cons_zero, List.set_cons_succ]
              refine RX.seqP_value (fun _ => Below.refl _ _) _ (by first | rfl | simp) (fun w' hw' hctx => by (go_simp); (try first | with_reducible rfl | simp)) ?_
              simp only [Act.put, List.setIfInBounds_toArray, List.set_cons_zero, List.set_cons_succ]
              refine RX.seqP_value (fun _ => Below.refl _ _) _ (by first | rfl | simp) (fun w' hw' hctx => by (go_simp); (try first | with_reducible rfl | simp)) ?_
              simp only [Act.put, List.setIfInBounds_toArray, List.set_cons_zero, List.set_cons_succ]
              refine RX.seqP_value (fun _ => Below.refl _ _) _ (by first | rfl | simp) (fun w' hw' hctx => by (go_simp); (try first | with_reducible rfl | simp)) ?_
              simp only [Act.put, List.setIfInBounds_toArray, List.set_cons_zero, List.set_cons_succ]
              refine RX.seqP_value (fun _ => Below.refl _ _) _ (by first | rfl | simp) (fun w' hw' hctx => by (go_simp); (try first | with_reducible rfl | simp)) ?_
              simp only [Act.put, List.setIfInBounds_toArray, List.set_cons_zero, List.set_cons_succ]
              refine RX.seqP_value (fun _ => Below.refl _ _) _ (by first | rfl | simp) (fun w' hw' hctx => by (go_simp); (try first | with_reducible rfl | simp)) ?_
              simp only [Act.put, List.setIfInBounds_toArray, List.set_cons_zero, List.set_cons_succ]
              refine RX.seqP_value (fun _ => Below.refl _ _) _ (by first | rfl | simp) (fun w' hw' hctx => by (go_simp); (try first | with_reducible rfl | simp)) ?_
              simp only [Act.put, List.setIfInBounds_toArray, List.set_cons_zero, List.set_cons_succ]
              refine RX.seqP_value (fun _ => Below.refl _ _) _ (by first | rfl | simp) (fun w' hw' hctx => ?_) ?_
              · have q := HRK.out.below (below_tr HB1.out (below_tr hdr hw'))
                obtain ⟨d0, d1, d2, dl⟩ := q.cells
                obtain ⟨hbl, q0, q1, q2, -⟩ := RowO.cell q.wt HP.out
                simp only [Bool.false_eq_true, if_false] at q1 q2
                go_simp
                try first | with_reducible rfl | simp
              simp only [Act.put, List.setIfInBounds_toArray, List.set_cons_zero, List.set_cons_succ]
              refine RX.seqP_value (fun _ => Below.refl _ _) _ (by first | rfl | simp) (fun w' hw' hctx => by (go_simp); (try first | with_reducible rfl | simp)) ?_
              simp only [Act.put, List.setIfInBounds_toArray, List.set_cons_zero, List.set_cons_succ]
              refine RX.seqP_value (fun _ => Below.refl _ _) _ (by first | rfl | simp) (fun w' hw' hctx => by (go_simp); (try first | with_reducible rfl | simp)) ?_
              simp only [Act.put, List.setIfInBounds_toArray, List.set_cons_zero, List.set_cons_succ]
              refine RX.seqP_value (fun _ => Below.refl _ _) _ (by first | rfl | simp) (fun w' hw' hctx => by (go_simp); (try first | with_reducible rfl | simp)) ?_
              simp only [Act.put, List.setIfInBounds_toArray, List.set_cons_zero, List.set_cons_succ]
              refine RX.seqP_value (fun _ => Below.refl _ _) _ (by first | rfl | simp) (fun w' hw' hctx => ?_) ?_
              · have q := HRK.out.below (below_tr HB1.out (below_tr hdr hw'))
                obtain ⟨d0, d1, d2, dl⟩ := q.cells
                obtain ⟨hbl, q0, q1, q2, -⟩ := RowO.cell q.wt HP.out
                simp only [Bool.false_eq_true, if_false] at q1 q2
                go_simp
                try first | with_reducible rfl | simp
              simp only [Act.put, List.setIfInBounds_toArray, List.set_cons_zero, List.set_cons_succ]
              refine RX.seqP_value (fun _ => Below.refl _ _) _ (by first | rfl | simp) (fun w' hw' hctx => by (go_simp); (try first | with_reducible rfl | simp)) ?_
              simp only [Act.put, List.setIfInBounds_toArray, List.set_cons_zero, List.set_cons_succ]
              refine RX.seqP_value (fun _ => Below.refl _ _) _ (by first | rfl | simp) (fun w' hw' hctx => ?_) ?_
              · have q := HRK.out.below (below_tr HB1.out (below_tr hdr hw'))
                obtain ⟨d0, d1, d2, dl⟩ := q.cells
                obtain ⟨hbl, q0, q1, q2, -⟩ := RowO.cell q.wt HP.out
                simp only [Bool.false_eq_true, if_false] at q1 q2
                go_simp
                try first | with_reducible rfl | simp
              simp only [Act.put, List.setIfInBounds_toArray, List.set_cons_zero, List.set_cons_succ]
              refine RX.seqP_value (fun _ => Below.refl _ _) _ (by first | rfl | simp) (fun w' hw' hctx => ?_) ?_
              · have q := HRK.out.below (below_tr HB1.out (below_tr hdr hw'))
                obtain ⟨d0, d1, d2, dl⟩ := q.cells
                obtain ⟨hbl, q0, q1, q2, -⟩ := RowO.cell q.wt HP.out
                simp only [Bool.false_eq_true, if_false] at q1 q2
                go_simp
                try first | with_reducible rfl | simp
              simp only [Act.put, List.setIfInBounds_toArray, List.set_cons_zero, List.set_cons_succ]
              refine RX.seqP_value (fun _ => Below.refl _ _) _ (by first | rfl | simp) (fun w' hw' hctx => ?_) ?_
              · have q := HRK.out.below (below_tr HB1.out (below_tr hdr hw'))
                obtain ⟨d0, d1, d2, dl⟩ := q.cells
                obtain ⟨hbl, q0, q1, q2, -⟩ := RowO.cell q.wt HP.out
                simp only [Bool.false_eq_true, if_false] at q1 q2
                go_simp
                try first | with_reducible rfl | simp
              simp only [Act.put, List.setIfInBounds_toArray, List.set_cons_zero, List.set_cons_succ]
              refine RX.seqP_call (60) #[.int .u8 v] (.int .u16 u) (by first | rfl | simp) (fun w' hw' hctx => ?_) (fun w' hw' hctx => rbit_is v HV.out.1 HV.out.2 w' u HU0.out) ?_
              · go_simp
              simp only [Act.put, List.setIfInBounds_toArray, List.set_cons_zero, List.set_cons_succ]
              refine RX.seqP_value (fun _ => Below.refl _ _) _ (by first | rfl | simp) (fun w' hw' hctx => by (go_simp); (try first | with_reducible rfl | simp)) ?_
              simp only [Act.put, List.setIfInBounds_toArray, List.set_cons_zero, List.set_cons_succ]
              refine RX.seqP_call (58) #[.int .u8 A.c, .int .u16 u, .int .u8 m] (.bool g) (by first | rfl | simp) (fun w' hw' hctx => ?_) (fun w' hw' hctx => rgo_is A.c u m HM.out HU.out w' g HG.out) ?_
              · go_simp
              simp only [Act.put, List.setIfInBounds_toArray, List.set_cons_zero, List.set_cons_succ]
              refine RX.seqP_value (fun _ => Below.refl _ _) _ (by first | rfl | simp) (fun w' hw' hctx => by (go_simp); (try first | with_reducible rfl | simp)) ?_
              simp only [Act.put, List.setIfInBounds_toArray, List.set_cons_zero, List.set_cons_succ]
              refine RX.seqP_value (fun _ => Below.refl _ _) _ (by first | rfl | simp) (fun w' hw' hctx => by (go_simp); (try first | with_reducible rfl | simp)) ?_
              simp only [Act.put, List.setIfInBounds_toArray, List.set_cons_zero, List.set_cons_succ]
              refine RX.seqP_nil (fun w2 hR hctx _ => ?_)
              have hb2 := below_tr hdr hR
              clear hctx hR
              have HBn := Lib.hid (below_tr HB1.out hb2)
              cases g with
              | true =>
                have HOn : Hid (RowI w2 vo ((blkW A.c (A.wt.take (i + 1)) y m).foldl putR L0) ∧ ∀ k, vo.ownBlock = some k → w.heap.size ≤ k) := Lib.hid ⟨by rw [blkW_no HP.out (.inr HG0.out)]; exact RowF.below HO1.out.1 hb2, HO1.out.2⟩
                clear hb2 hdr HO1 HB1
                go_wp2_with fail
                go_roundg (ah - (i + 1))
                case measure => have := HLT.out; omega
                case rel => exact ⟨i + 1, vo, rfl, by go_num, by have := HLT.out; omega, Nat.le_refl _, HOn, HBn⟩
              | false =>
                have q := HRK.out.below HBn.out
                obtain ⟨d0, d1, d2, dl⟩ := q.cells
                obtain ⟨hbl, q0, -, -, -⟩ := RowO.cell q.wt HP.out
                have hcon := rput_is w2 vo _ z (by have h1 := fold_len (blkW A.c (A.wt.take i) y m) L0; have h2 := blkW_len A.c (A.wt.take i) y m; have h3 : (A.wt.take i).length ≤ A.wt.length := List.length_take_le' _ _; have h4 := HLEN.out; have h5 := HL0.out; omega) (RowF.below HO1.out.1 hb2)
                clear hb2 hdr q
                go_wp2_with fail
                refine (show Calls Try.prog _ _ _ _ from hcon).mono ?_
                rintro e w3 ⟨v', rfl, h1, h2, h3⟩
                have HOn : Hid (RowI w3 v' ((blkW A.c (A.wt.take (i + 1)) y m).foldl putR L0) ∧ ∀ k, v'.ownBlock = some k → w.heap.size ≤ k) := Lib.hid ⟨by rw [blkW_yes HP.out HZY.out HG0.out]; exact h1, fun k hk => (h2 k hk).elim (HO1.out.2 k) (fun e => Nat.le_trans HBn.out.size e)⟩
                have HBm := Lib.hid (below_tr HBn.out h3)
                clear hcon h1 h2 h3 HO1 HB1 HBn d0 d1 d2 dl hbl q0
                go_wp2_with fail
                go_roundg (ah - (i + 1))
                case measure => have := HLT.out; omega
                case rel => exact ⟨i + 1, v', rfl, by go_num, by have := HLT.out; omega, Nat.le_refl _, HOn, HBm⟩
          · have hltz : ¬ (i : Int) < (ah : Int) := by omega
            have hia : i = ah := by omega
            subst hia
            have HE : Hid (RowI wr vo (forL A.c A.hd (A.wt.take i) y m) ∧ (∀ k, vo.ownBlock = some k → w.heap.size ≤ k) ∧ Below w.heap.size w wr) := Lib.hid ⟨by
              have h1 := HO.out.1
              unfold forL allB
              rw [if_pos H0.out, List.foldl_append, HF0.out]
              exact h1, HO.out.2, HB.out⟩
            clear HO HB hi hgg hlt
            go_wp2_with fail
            go_ret
            exact ⟨_, rfl, HE.out.1, HE.out.2.1, HE.out.2.2⟩
      · have hz0 : (hv == 0) = false := by rw [beq_eq_false_iff_ne]; exact hz
        have HHV := Lib.hid hhv
        have HE : Hid (RowI wr vo (forL A.c A.hd (A.wt.take ah) y m) ∧ (∀ k, vo.ownBlock = some k → w.heap.size ≤ k) ∧ Below w.heap.size w wr) := Lib.hid ⟨by
          have h1 := HO2.out.1
          unfold forL allB
          rw [if_neg (by rw [hhv]; exact hz), List.append_nil, HF0.out]
          exact h1, HO2.out.2, HB2.out⟩
        have HCON := Lib.hid (rheld_is wr x _ _ A y (HRK.out.below HB2.out) hv hhv)
        clear HO2 HB2 hhv
        go_wp2_with fail
        go_loopg [9, 11] 0 (fun gg s9 s11 wq => s9 = vo ∧ s11 = .int .i64 0 ∧ wq = wr)
        case atStart => exact ⟨rfl, rfl, rfl⟩
        case round =>
          obtain ⟨hs9, rfl, hwq⟩ := hrel
          subst hs9
          subst hwq
          by_cases hlt : 0 < ah
          · have hltz : (0 : Int) < (ah : Int) := by omega
            go_wp2_with fail
            refine HCON.out.mono ?_
            rintro e w2 ⟨rfl, hb⟩
            have HE2 := Lib.hid (And.intro (RowF.below HE.out.1 hb) (And.intro HE.out.2.1 (below_tr HE.out.2.2 hb)))
            clear hb HE
            go_wp2_with fail
            go_ret
            exact ⟨_, rfl, HE2.out.1, HE2.out.2.1, HE2.out.2.2⟩
          · obtain rfl : ah = 0 := by omega
            go_wp2_with fail
            go_ret
            exact ⟨_, rfl, HE.out.1, HE.out.2.1, HE.out.2.2⟩

theorem rfw_is (w : World) (x : Nat) (s t : Value) (A : Lk) (y m : Int) (ah : Nat) (hah : ah ≤ A.wt.length) (hok : Ok0 A) (hm : U8 m) (hlen : A.hd.length + A.wt.length ≤ 100000) (H : RkM w x s t A) :
    Calls Try.prog 36 #[.pointer (some ⟨x, 0, none⟩), .int .i64 y, .int .u8 m, .int .i64 ah] w fun e w' => ∃ v, e = .returned v ∧ RowI w' v (forL A.c A.hd (A.wt.take ah) y m) ∧ (∀ k, v.ownBlock = some k → w.heap.size ≤ k) ∧ Below w.heap.size w w' := by
  obtain ⟨a, c, rfl, -, -⟩ := H.hd.form
  obtain ⟨a2, c2, rfl, -, -⟩ := H.wt.form
  exact rfw_ex w x a _ c a2 _ c2 A y m ah hah hok hm hlen H

end Go.Proofs.Ytjjhmfpdbjflmaa
