/-
  What value.readNumber and strings.Clone answer, as walks over this translation.
-/
import Derived.Test.YtoglaibcmfjclaaDoorVBase
import Derived.Test.YtoglaibcmfjclaaDoorReg
import Derived.Lib.AtoiErrMem
import Derived.Deep.QuietTactic
import Derived.BigQuiet
namespace Go.Proofs.YtoglaibcmfjclaaDoor
open Go.RowKit

def numOK (l : List UInt8) : Bool := match Lib.parseIntB 64 l with | .ok _ => true | _ => false
def numV (l : List UInt8) : Int := match Lib.parseIntB 64 l with | .ok v => v | .range => Lib.intSat 64 l | _ => 0

set_option maxHeartbeats 400000 in
theorem clone_any (s : ByteArray) (hs : s.size ≤ 281474976710656) (w : World) :
    Calls Tryd.prog 76 #[.string s] w fun e w' => e = .returned (.string s) ∧ Below w.heap.size w w' := by
  go_enter Tryd.func76, Tryd.ntmps76
  go_wp2_with fail
  refine (Tryd.stringslite_Clone s _ hs).mono ?_
  rintro e w1 ⟨rfl, hb⟩
  go_wp2_with fail
  go_ret
  exact ⟨rfl, hb⟩

set_option maxHeartbeats 400000 in
theorem number_ok (s : ByteArray) (hs : s.size ≤ 100000) (v : Int) (hv : Lib.parseIntB 64 s.data.toList = .ok v) (w : World) :
    Calls Tryd.prog 68 #[.string s] w fun e w' => e = .returned (.tuple #[.int .i64 v, .bool true]) ∧ Below w.heap.size w w' := by
  have HV := Lib.hid hv
  clear hv
  go_enter Tryd.func68, Tryd.ntmps68
  go_wp2_with fail
  refine (Tryd.strconv_ParseInt_10_at64_ok s (by omega) v HV.out _).mono ?_
  rintro e w1 ⟨rfl, hw⟩
  have hb : Below w.heap.size w w1 := by
    rcases hw with rfl | ⟨t, rfl⟩
    · exact Below.refl _ _
    · exact Lib.bytesWorld_below _ _ _
  clear hw
  go_wp2_with fail
  go_quiet (fail)
  go_wp2_with fail
  go_ret2
  exact ⟨rfl, below_drewN hb _⟩

set_option maxHeartbeats 400000 in
theorem number_syntax (s : ByteArray) (hs : s.size ≤ 100000) (hv : Lib.parseIntB 64 s.data.toList = Lib.parseIntB 64 []) (w : World) (hg : Good w) :
    Calls Tryd.prog 68 #[.string s] w fun e w' => e = .returned (.tuple #[.int .i64 0, .bool false]) ∧ Below w.heap.size w w' := by
  have HV := Lib.hid hv
  clear hv
  obtain ⟨tp, p, hvar⟩ := hg.syn
  have HX := Lib.hid hvar
  clear hvar
  go_enter Tryd.func68, Tryd.ntmps68
  go_wp2_with fail
  refine (Tryd.strconv_ParseInt_10_at64_syntax_var s (by omega) HV.out tp p _ HX.out).mono ?_
  rintro e w1 ⟨N, rfl, _, _, hb⟩
  go_wp2_with fail
  go_quiet (fail)
  go_wp2_with fail
  go_ret2
  exact ⟨rfl, below_drewN hb _⟩

set_option maxHeartbeats 400000 in
theorem number_range (s : ByteArray) (hs : s.size ≤ 100000) (hv : Lib.parseIntB 64 s.data.toList = .range) (w : World) (hg : Good w) :
    Calls Tryd.prog 68 #[.string s] w fun e w' => e = .returned (.tuple #[.int .i64 (Lib.intSat 64 s.data.toList), .bool false]) ∧ Below w.heap.size w w' := by
  have HV := Lib.hid hv
  clear hv
  obtain ⟨tp, p, hvar⟩ := hg.ran
  have HX := Lib.hid hvar
  clear hvar
  go_enter Tryd.func68, Tryd.ntmps68
  go_wp2_with fail
  refine (Tryd.strconv_ParseInt_10_at64_range_var s (by omega) HV.out tp p _ HX.out).mono ?_
  rintro e w1 ⟨N, rfl, _, _, hb⟩
  go_wp2_with fail
  go_quiet (fail)
  go_wp2_with fail
  go_ret2
  exact ⟨rfl, below_drewN hb _⟩

theorem number_any (s : ByteArray) (hs : s.size ≤ 100000) (w : World) (hg : Good w) :
    Calls Tryd.prog 68 #[.string s] w fun e w' => e = .returned (.tuple #[.int .i64 (numV s.data.toList), .bool (numOK s.data.toList)]) ∧ Below w.heap.size w w' := by
  unfold numV numOK
  cases h : Lib.parseIntB 64 s.data.toList with
  | ok v => exact number_ok s hs v h w
  | range => exact number_range s hs h w hg
  | _ => exact number_syntax s hs h w hg

end Go.Proofs.YtoglaibcmfjclaaDoor
