/-
  What the laws of stage 7 ask of package btree, as a structure: whoever fills it (with what a tree is in memory, and the contracts of its calls) has the laws.
-/
import Derived.Test.YtfikaccgpjiedaaJJ22
import Derived.StillTailTactics
namespace Go.Proofs.Ytfikaccgpjiedaa
open Go.RowKit

def nodeV (g : Nat) : Value := .pointer (some ⟨g, 0, none⟩)

/-- How high a tree of entries may be. -/
def HighOk (n h : Nat) : Prop := (n = 0 ∧ h = 0) ∨ ∃ m, h = m + 1 ∧ 2 * 4 ^ m ≤ n + 1 ∧ n + 1 ≤ 8 ^ (m + 1)

def idsOf (key : List Val) (L : List Ent) : List Int := (L.filter fun e => decide (e.key = key)).map (·.id)

structure TreeSpec where
  /-- At block g lies a tree of the entries L; it may write into blocks of F, and hangs on no others. -/
  Is : World → Nat → List Ent → (Nat → Prop) → Prop
  stay : ∀ {W W' g L F}, Is W g L F → Stay F W W' → Is W' g L F
  lt : ∀ {W g L F}, Is W g L F → ∀ k, F k → k < W.heap.size
  srt : ∀ {W g L F}, Is W g L F → Srt ltE L
  wf : ∀ {W g L F}, Is W g L F → ∀ e ∈ L, I64 e.id ∧ ∀ v ∈ e.key, v.wf
  new_is : ∀ (w : World), Calls Try.prog 9 #[] w fun e w' => ∃ g F, e = .returned (nodeV g) ∧ Is w' g [] F ∧ (∀ k, F k → w.heap.size ≤ k) ∧ Below w.heap.size w w'
  put_is : ∀ (w : World) (g : Nat) (L : List Ent) (F G : Nat → Prop) (a : Option Addr) (c n : Nat) (key : List Val) (id : Int) (z : Bool), key.length = n → n ≤ 7500 → L.length ≤ 2000 → SlG G w a c key → (∀ k, G k → ¬ F k) → I64 id → decide ((⟨key, id⟩ : Ent) ∉ L) = z → Is w g L F →
    Calls Try.prog 10 #[nodeV g, .slice a n c, .int .i64 id] w fun e w' => ∃ F', e = .returned (.bool z) ∧ Is w' g (insS ltE ⟨key, id⟩ L) F' ∧ (∀ k, F' k → F k ∨ w.heap.size ≤ k) ∧ Touch F w w'
  del_is : ∀ (w : World) (g : Nat) (L : List Ent) (F G : Nat → Prop) (a : Option Addr) (c n : Nat) (key : List Val) (id : Int) (z : Bool), key.length = n → n ≤ 7500 → L.length ≤ 2000 → SlG G w a c key → (∀ k, G k → ¬ F k) → I64 id → decide ((⟨key, id⟩ : Ent) ∈ L) = z → Is w g L F →
    Calls Try.prog 11 #[nodeV g, .slice a n c, .int .i64 id] w fun e w' => ∃ F', e = .returned (.bool z) ∧ Is w' g (delS ⟨key, id⟩ L) F' ∧ (∀ k, F' k → F k ∨ w.heap.size ≤ k) ∧ Touch F w w'
  walk_is : ∀ (w : World) (g : Nat) (L : List Ent) (F : Nat → Prop) (a a' : Option Addr) (c c' n n' : Nat) (lo hi : List Val), lo.length = n → hi.length = n' → n ≤ 7500 → n' ≤ 7500 → L.length ≤ 2000 → SlL w a c lo → SlL w a' c' hi → Is w g L F →
    Calls Try.prog 16 #[nodeV g, .slice a n c, .slice a' n' c'] w fun e w' => ∃ a1 c1, e = .returned (.slice a1 (walkE lo hi L).length c1) ∧ SlEn (fun k => w.heap.size ≤ k ∧ k < w'.heap.size) w' a1 c1 (walkE lo hi L) ∧ Below w.heap.size w w'
  find_is : ∀ (w : World) (g : Nat) (L : List Ent) (F : Nat → Prop) (a : Option Addr) (c n : Nat) (key : List Val), key.length = n → n ≤ 7500 → L.length ≤ 2000 → SlL w a c key → Is w g L F →
    Calls Try.prog 23 #[nodeV g, .slice a n c] w fun e w' => ∃ a1 c1, e = .returned (.slice a1 (idsOf key L).length c1) ∧ SlI w' a1 c1 (idsOf key L) ∧ Below w.heap.size w w'
  len_is : ∀ (w : World) (g : Nat) (L : List Ent) (F : Nat → Prop), L.length ≤ 2000 → Is w g L F → Calls Try.prog 14 #[nodeV g] w fun e w' => e = .returned (.int .i64 (L.length : Int)) ∧ Below w.heap.size w w'
  height_is : ∀ (w : World) (g : Nat) (L : List Ent) (F : Nat → Prop), L.length ≤ 2000 → Is w g L F → Calls Try.prog 15 #[nodeV g] w fun e w' => ∃ h : Nat, e = .returned (.int .i64 (h : Int)) ∧ HighOk L.length h ∧ Below w.heap.size w w'
  well_is : ∀ (w : World) (g : Nat) (L : List Ent) (F : Nat → Prop), L.length ≤ 2000 → Is w g L F → Calls Try.prog 12 #[nodeV g] w fun e w' => e = .returned (.bool true) ∧ Below w.heap.size w w'
  copy_is : ∀ (w : World) (g : Nat) (L : List Ent) (F : Nat → Prop), L.length ≤ 2000 → Is w g L F → Calls Try.prog 24 #[nodeV g] w fun e w' => ∃ g' F', e = .returned (nodeV g') ∧ Is w' g' L F' ∧ (∀ k, F' k → w.heap.size ≤ k) ∧ Below w.heap.size w w'

theorem length_insE (x : Ent) : ∀ l : List Ent, (insS ltE x l).length ≤ l.length + 1
  | [] => by simp [insS]
  | y :: l => by
      unfold insS
      split
      · have := length_insE x l
        simp only [List.length_cons]
        omega
      · split <;> simp

theorem allS_snoc (l : List Ent) (x : Ent) : allS ltE (l ++ [x]) = insS ltE x (allS ltE l) := by simp [allS, List.foldl_append]

theorem length_allE : ∀ (l t : List Ent), (l.foldl (fun t x => insS ltE x t) t).length ≤ l.length + t.length
  | [], t => by simp
  | x :: l, t => by
      have h1 := length_allE l (insS ltE x t)
      have h2 := length_insE x t
      simp only [List.foldl_cons, List.length_cons]
      omega

theorem length_allS (l : List Ent) : (allS ltE l).length ≤ l.length := by simpa [allS] using length_allE l []

set_option maxRecDepth 100000 in
set_option maxHeartbeats 2000000 in
theorem many_is (T : TreeSpec) (a : Option Addr) (c n : Nat) (l : List Stp) (hn : l.length = n) (hsm : l.length ≤ 800 ∧ ∀ s ∈ l, s.key.length ≤ 7500 ∧ s.to.length ≤ 7500) (w : World) (h1 : SlSt w a c l) :
    Calls Try.prog 19 #[.slice a n c] w fun e w' => ∃ g F, e = .returned (nodeV g) ∧ T.Is w' g (allS ltE (l.map Stp.en)) F ∧ (∀ k, F k → w.heap.size ≤ k) ∧ Below w.heap.size w w' := by
  have HA := Lib.hid h1
  have HN := Lib.hid hn
  have HSM := Lib.hid hsm
  have hbn : n ≤ 800 := by rw [← hn]; exact hsm.1
  clear h1 hn hsm
  go_enter Try.func19, Try.ntmps19
  go_wp2_with fail
  refine (T.new_is _).mono ?_
  rintro e w1 ⟨g, F0, rfl, hI, hF, hb1⟩
  have HI : Hid (T.Is w1 g (allS ltE ((l.take 0).map Stp.en)) F0) := Lib.hid hI
  have HF := Lib.hid hF
  have HB1 := Lib.hid hb1
  clear hI hF hb1
  unfold nodeV
  go_wp2_with fail
  go_loopg [4] n (fun gg s4 wr => ∃ (i : Nat) (F : Nat → Prop), s4 = .int .i64 i ∧ i ≤ n ∧ n - i ≤ gg ∧ Hid (T.Is wr g (allS ltE ((l.take i).map Stp.en)) F) ∧ Hid (∀ k, F k → w.heap.size ≤ k) ∧ Hid (Below w.heap.size w wr))
  case atStart => exact ⟨0, F0, rfl, Nat.zero_le _, by omega, HI, HF, HB1⟩
  case round =>
    obtain ⟨i, F, rfl, hin, hgg, HT, HFF, BW⟩ := hrel
    by_cases hlt : i < n
    · have hltz : (i : Int) < (n : Int) := by omega
      have z1 : ¬ n ≤ i := by omega
      obtain ⟨s, hs⟩ : ∃ s, l[i]? = some s := ⟨l[i]'(by rw [HN.out]; exact hlt), by simp⟩
      obtain ⟨b, o, rfl, ka, kc, ta, tc, d0, d1, d2, d3, hkey, hto, d4⟩ := at_st HA.out hs
      have hkg := hkey.all.below BW.out
      have hmem := List.mem_of_getElem? hs
      have hid := (HA.out.wf s hmem).2
      have hks := (HSM.out.2 s hmem).1
      obtain ⟨z, hz⟩ : ∃ z, decide ((⟨s.key, s.id⟩ : Ent) ∉ allS ltE ((l.take i).map Stp.en)) = z := ⟨_, rfl⟩
      obtain ⟨kn, hkn⟩ : ∃ kn, s.key.length = kn := ⟨_, rfl⟩
      have hlen : (allS ltE ((l.take i).map Stp.en)).length ≤ 2000 := Nat.le_trans (length_allS _) (by rw [List.length_map, List.length_take]; omega)
      have hcon := fun (W : World) (hb : Below wr.heap.size wr W) => T.put_is W g (allS ltE ((l.take i).map Stp.en)) F (fun k => k < w.heap.size) ka kc kn s.key s.id z hkn (by omega) hlen (hkg.below hb) (fun k hk hf => by have := HFF.out k hf; omega) hid hz (T.stay HT.out (Stay.of_below hb))
      have c1 : wr.cell? ⟨b, o + i * 4 + 1, none⟩ = some (.slice ka kn kc) := by rw [BW.out.cell d4, ← hkn]; exact d1
      have c3 : wr.cell? ⟨b, o + i * 4 + 3, none⟩ = some (.int .i64 s.id) := by rw [BW.out.cell d4]; exact d3
      have HCON := Lib.hid hcon
      have HS := Lib.hid hs
      clear d0 d1 d2 d3 d4 hkey hto hkg hmem hid hks hz hkn hlen hcon hs
      go_wp2_with fail
      go_still_tail 11, (by kernel_rfl)
      change wpList _ _ _ _ _ wr.drew
      have hc2 := HCON.out wr.drew (below_drw wr)
      have BD : Hid (Below w.heap.size w wr.drew) := Lib.hid (BW.out.trans ((below_drw wr).mono BW.out.size))
      clear c1 c3 HCON
      generalize wr.drew = W at hc2 BD ⊢
      unfold nodeV at hc2
      go_wp2_with fail
      refine hc2.mono ?_
      rintro e w2 ⟨F', rfl, hI', hF', hT'⟩
      have HI' : Hid (T.Is w2 g (allS ltE ((l.take (i + 1)).map Stp.en)) F') := Lib.hid (by
        rw [List.take_add_one, HS.out]
        simp only [Option.toList_some, List.map_append, List.map_cons, List.map_nil]
        rw [allS_snoc]
        exact hI')
      have HF' : Hid (∀ k, F' k → w.heap.size ≤ k) := Lib.hid (fun k hk => by
        rcases hF' k hk with h | h
        · exact HFF.out k h
        · exact Nat.le_trans BD.out.size h)
      have HB' : Hid (Below w.heap.size w w2) := Lib.hid (BD.out.trans (hT'.below HFF.out BD.out.size))
      clear hc2 hI' hF' hT'
      go_wp2_with fail
      go_roundg (n - (i + 1))
      case measure => omega
      case rel => exact ⟨i + 1, F', by go_num, by omega, Nat.le_refl _, HI', HF', HB'⟩
    · have hltz : ¬ (i : Int) < (n : Int) := by omega
      have HI' : Hid (T.Is wr g (allS ltE (l.map Stp.en)) F) := Lib.hid (by have := HT.out; rwa [List.take_of_length_le (by rw [HN.out]; omega)] at this)
      go_wp2_with fail
      go_ret
      exact ⟨g, rfl, F, HI'.out, HFF.out, BW.out⟩

end Go.Proofs.Ytfikaccgpjiedaa

