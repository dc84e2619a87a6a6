/-
  The law LogicNumbers: whatever the two numbers, it answers true.
-/
import Derived.Test.YtmbjhahlbbhdaaaQNumbersT1T
import Derived.Test.YtmbjhahlbbhdaaaQNumbersT1F
import Derived.Test.YtmbjhahlbbhdaaaQNumbersT2T
import Derived.Test.YtmbjhahlbbhdaaaQNumbersT2F
import Derived.Test.YtmbjhahlbbhdaaaQNumbersF11T
import Derived.Test.YtmbjhahlbbhdaaaQNumbersF11F
import Derived.Test.YtmbjhahlbbhdaaaQNumbersF12T
import Derived.Test.YtmbjhahlbbhdaaaQNumbersF12F
import Derived.Test.YtmbjhahlbbhdaaaQNumbersF2
import Derived.Test.YtmbjhahlbbhdaaaQNumbersF3
namespace Go.Proofs.Ytmbjhahlbbhdaaa
open Go.RowKit

theorem calc11 (x : Int) : calcR 1 1 x = cond (inR x) ⟨1, x, 0⟩ ⟨0, 0, 61⟩ := by
  have h1 : fitB 1 1 = true := by decide
  have h2 : nullB 1 = false := by decide
  simp [calcR, h1, h2]
theorem calc_in {x : Int} (h : inR x = true) : calcR 1 1 x = ⟨1, x, 0⟩ := by rw [calc11, h]; rfl
theorem calc_out {x : Int} (h : inR x = false) : calcR 1 1 x = ⟨0, 0, 61⟩ := by rw [calc11, h]; rfl
theorem calc01 (x : Int) : calcR 0 1 x = ⟨0, 0, 0⟩ := by
  have h1 : fitB 1 1 = true := by decide
  have h2 : fitB 1 0 = true := by decide
  have h3 : nullB 0 = true := by decide
  simp [calcR, h1, h2, h3]
theorem inR_false {x : Int} (h : inR x = false) : ¬ I64 x := fun e => by rw [inR_iff.2 e] at h; cases h
theorem i64_0 : I64 0 := by unfold I64; omega

theorem pack_s (n m : Int) (hn : I64 n) : ∃ (sk sn se bk bn : Int) (o1 : Bool), calcR 1 1 (n + m) = ⟨sk, sn, se⟩ ∧ calcR 1 1 (m + n) = ⟨sk, sn, se⟩ ∧ calcR sk 1 (sn - m) = ⟨bk, bn, 0⟩ ∧ I64 sn ∧ (se == 0) = o1 ∧
    ((o1 = true ∧ sk = 1 ∧ sn = n + m ∧ bk = 1 ∧ bn = n ∧ wrap64 (n + m) = n + m) ∨ o1 = false) := by
  cases h : inR (n + m)
  · refine ⟨0, 0, 61, 0, 0, false, calc_out h, ?_, calc01 _, i64_0, by decide, .inr rfl⟩
    rw [Int.add_comm]; exact calc_out h
  · refine ⟨1, n + m, 0, 1, n, true, calc_in h, ?_, ?_, inR_iff.1 h, by decide, .inl ⟨rfl, rfl, rfl, rfl, rfl, wrap_R h⟩⟩
    · rw [Int.add_comm m n]; exact calc_in h
    · rw [show n + m - m = n by omega]; exact calc_in (inR_iff.2 hn)

theorem pack_p (n m : Int) (hn : I64 n) : ∃ (pk pn pe : Int) (o2 : Bool), calcR 1 1 (n * m) = ⟨pk, pn, pe⟩ ∧ calcR 1 1 (m * n) = ⟨pk, pn, pe⟩ ∧ (pe == 0) = o2 ∧
    ((o2 = true ∧ m ≠ 0 ∧ pk = 1 ∧ wrap64 (pn.tdiv m) = n ∧ wrap64 (pn.tmod m) = 0 ∧ pn.tmod m = 0) ∨ (o2 = true ∧ m = 0) ∨ (o2 = false ∧ n ≠ 0 ∧ m ≠ 0)) := by
  cases h : inR (n * m)
  · refine ⟨0, 0, 61, false, calc_out h, ?_, by decide, .inr (.inr ⟨rfl, ?_, ?_⟩)⟩
    · rw [Int.mul_comm]; exact calc_out h
    · rintro rfl
      rw [Int.zero_mul] at h
      exact inR_false h i64_0
    · rintro rfl
      rw [Int.mul_zero] at h
      exact inR_false h i64_0
  · refine ⟨1, n * m, 0, true, calc_in h, ?_, by decide, ?_⟩
    · rw [Int.mul_comm m n]; exact calc_in h
    · by_cases hm : m = 0
      · exact .inr (.inl ⟨rfl, hm⟩)
      · have ht : (n * m).tmod m = 0 := Int.mul_tmod_left n m
        exact .inl ⟨rfl, hm, rfl, by rw [Int.mul_tdiv_cancel _ hm]; exact wrap_in hn, by rw [ht]; exact wrap_in i64_0, ht⟩

theorem pack_d (n m : Int) : ∃ (lk ln le mk mn me : Int) (o3 o4 : Bool), calcR 1 1 (n - m) = ⟨lk, ln, le⟩ ∧ calcR 1 1 (m - n) = ⟨mk, mn, me⟩ ∧ (le == 0) = o3 ∧ (me == 0) = o4 ∧
    ((o3 = true ∧ o4 = true ∧ wrap64 (-mn) = ln) ∨ (o3 = true ∧ o4 = false) ∨ o3 = false) ∧ (o3 = true → lk = 1 ∧ ln = n - m ∧ inR (n - m) = true) := by
  cases h : inR (n - m)
  · cases h2 : inR (m - n)
    · exact ⟨_, _, _, _, _, _, false, false, calc_out h, calc_out h2, by decide, by decide, .inr (.inr rfl), fun e => by cases e⟩
    · exact ⟨_, _, _, _, _, _, false, true, calc_out h, calc_in h2, by decide, by decide, .inr (.inr rfl), fun e => by cases e⟩
  · cases h2 : inR (m - n)
    · exact ⟨_, _, _, _, _, _, true, false, calc_in h, calc_out h2, by decide, by decide, .inr (.inl ⟨rfl, rfl⟩), fun _ => ⟨rfl, rfl, rfl⟩⟩
    · exact ⟨_, _, _, _, _, _, true, true, calc_in h, calc_in h2, by decide, by decide, .inl ⟨rfl, rfl, by rw [show -(m - n) = n - m by omega]; exact wrap_R h⟩, fun _ => ⟨rfl, rfl, rfl⟩⟩

theorem numbers_any (n m : Int) (hn : I64 n) (hm : I64 m) (w : World) :
    Calls Try.prog 6 #[.int .i64 n, .int .i64 m] w fun e w' => e = .returned (.bool true) ∧ Below w.heap.size w w' := by
  obtain ⟨sk, sn, se, bk, bn, o1, a1, a2, b1, i3, e1, c1⟩ := pack_s n m hn
  obtain ⟨pk, pn, pe, o2, p1, p2, e2, c2⟩ := pack_p n m hn
  obtain ⟨lk, ln, le, mk, mn, me, o3, o4, l1, l2, e3, e4, c4, hd⟩ := pack_d n m
  have d1 : calcR 1 1 (n * 1) = ⟨1, n, 0⟩ := by rw [Int.mul_one]; exact calc_in (inR_iff.2 hn)
  have d2 : calcR 1 1 (n + 0) = ⟨1, n, 0⟩ := by rw [Int.add_zero]; exact calc_in (inR_iff.2 hn)
  by_cases h : m = -9223372036854775808
  · have l3 : calcR 1 1 (0 - m) = ⟨0, 0, 61⟩ := by
      refine calc_out ?_
      cases hh : inR (0 - m)
      · rfl
      · have := inR_iff.1 hh
        unfold I64 at this
        omega
    have hb : (m != -9223372036854775808) = false := by rw [h]; decide
    rcases c4 with ⟨h3, h4, hw⟩ | ⟨h3, h4⟩ | h3
    · rcases c1 with c1 | c1
      · exact numbers_F11T n m sk sn se bk bn pk pn pe lk ln le mk mn me 0 0 61 o1 o2 o3 o4 a1 a2 b1 p1 p2 l1 l2 l3 hn hm i3 i64_0 e1 e2 e3 e4 c1 c2 ⟨h3, rfl, hb, h4, hw⟩ d1 d2 w
      · exact numbers_F11F n m sk sn se bk bn pk pn pe lk ln le mk mn me 0 0 61 o1 o2 o3 o4 a1 a2 b1 p1 p2 l1 l2 l3 hn hm i3 i64_0 e1 e2 e3 e4 c1 c2 ⟨h3, rfl, hb, h4, hw⟩ d1 d2 w
    · rcases c1 with c1 | c1
      · exact numbers_F12T n m sk sn se bk bn pk pn pe lk ln le mk mn me 0 0 61 o1 o2 o3 o4 a1 a2 b1 p1 p2 l1 l2 l3 hn hm i3 i64_0 e1 e2 e3 e4 c1 c2 ⟨h3, rfl, hb, h4⟩ d1 d2 w
      · exact numbers_F12F n m sk sn se bk bn pk pn pe lk ln le mk mn me 0 0 61 o1 o2 o3 o4 a1 a2 b1 p1 p2 l1 l2 l3 hn hm i3 i64_0 e1 e2 e3 e4 c1 c2 ⟨h3, rfl, hb, h4⟩ d1 d2 w
    · exact numbers_F3 n m sk sn se bk bn pk pn pe lk ln le mk mn me 0 0 61 o1 o2 o3 o4 a1 a2 b1 p1 p2 l1 l2 l3 hn hm i3 i64_0 e1 e2 e3 e4 c1 c2 ⟨h3, rfl, hb⟩ d1 d2 w
  · have i4 : I64 (0 - m) := by unfold I64 at *; omega
    have l3 : calcR 1 1 (0 - m) = ⟨1, 0 - m, 0⟩ := calc_in (inR_iff.2 i4)
    have hb : (m != -9223372036854775808) = true := by rw [bne_iff_ne]; exact h
    have hx : o3 = true → calcR 1 1 (n + (0 - m)) = ⟨lk, ln, 0⟩ := fun h3 => by
      obtain ⟨g1, g2, g3⟩ := hd h3
      rw [g1, g2, show n + (0 - m) = n - m by omega]; exact calc_in g3
    rcases c4 with ⟨h3, h4, hw⟩ | ⟨h3, h4⟩ | h3
    · rcases c1 with c1 | c1
      · exact numbers_T1T n m sk sn se bk bn pk pn pe lk ln le mk mn me 1 (0 - m) 0 o1 o2 o3 o4 a1 a2 b1 p1 p2 l1 l2 l3 hn hm i3 i4 e1 e2 e3 e4 c1 c2 ⟨h3, rfl, hx h3, hb, h4, hw⟩ d1 d2 w
      · exact numbers_T1F n m sk sn se bk bn pk pn pe lk ln le mk mn me 1 (0 - m) 0 o1 o2 o3 o4 a1 a2 b1 p1 p2 l1 l2 l3 hn hm i3 i4 e1 e2 e3 e4 c1 c2 ⟨h3, rfl, hx h3, hb, h4, hw⟩ d1 d2 w
    · rcases c1 with c1 | c1
      · exact numbers_T2T n m sk sn se bk bn pk pn pe lk ln le mk mn me 1 (0 - m) 0 o1 o2 o3 o4 a1 a2 b1 p1 p2 l1 l2 l3 hn hm i3 i4 e1 e2 e3 e4 c1 c2 ⟨h3, rfl, hx h3, hb, h4⟩ d1 d2 w
      · exact numbers_T2F n m sk sn se bk bn pk pn pe lk ln le mk mn me 1 (0 - m) 0 o1 o2 o3 o4 a1 a2 b1 p1 p2 l1 l2 l3 hn hm i3 i4 e1 e2 e3 e4 c1 c2 ⟨h3, rfl, hx h3, hb, h4⟩ d1 d2 w
    · exact numbers_F2 n m sk sn se bk bn pk pn pe lk ln le mk mn me 1 (0 - m) 0 o1 o2 o3 o4 a1 a2 b1 p1 p2 l1 l2 l3 hn hm i3 i4 e1 e2 e3 e4 c1 c2 ⟨h3, rfl, hb⟩ d1 d2 w
end Go.Proofs.Ytmbjhahlbbhdaaa
