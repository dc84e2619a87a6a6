/-
  The text of a key (key.Text), for keys of sixty values at most.
-/
import Derived.Test.YtenpjfkiehcjlaaGreatDoorKAwake
import Derived.Test.YtenpjfkiehcjlaaGreatDoorWText
namespace Go.Proofs.YtenpjfkiehcjlaaGreatDoor
open Go.RowKit

theorem txV_small (v : Val) (hw : v.wf) : (txV v).length ≤ 1200 := by
  cases hm : mayV v with
  | false => rw [(tx_empty v).mpr hm]; simp
  | true =>
    have h1 := txV_len v hw
    have h2 : v.t.data.toList.length ≤ 256 := by
      have := mayB_iff.mp (show mayB v.k v.n v.u v.t.data.toList = true from hm)
      rcases this with ⟨_, _, _, h⟩ | ⟨_, _, h⟩ | ⟨_, _, _, h⟩ | ⟨_, _, _, h⟩ | ⟨_, _, h⟩
      · rw [h]; simp
      · rw [h]; simp
      · rw [h]; simp
      · exact h
      · rw [h]; simp
    have e : v.t.data.toList.length = v.t.size := rfl
    omega

theorem jt_small : ∀ l : List Val, (∀ v ∈ l, v.wf) → (jt l).length ≤ 1202 * l.length
  | [], _ => by simp [jt_nil]
  | [v], h => by
    have h1 := txV_small v (h v (by simp))
    rw [jt_one]
    simp
    omega
  | v :: w :: l, h => by
    have h1 := txV_small v (h v (by simp))
    have h2 := jt_small (w :: l) (fun x hx => h x (by simp [hx]))
    rw [jt_cons]
    simp only [List.length_append, List.length_cons] at *
    omega

theorem ktext_is (a : Option Addr) (c n : Nat) (l : List Val) (p : ByteArray) (hn : l.length = n) (hs : n ≤ 60) (hp : rowT l = p.data.toList) (w : World) (hg : GoodT w) (h1 : SlL w a c l) :
    Calls Tryz.prog 20 #[.slice a n c] w fun e w' => e = .returned (.string p) ∧ Below w.heap.size w w' := by
  have hj := jt_small l h1.wf
  have hcon := fun W (hB : Below w.heap.size w W) => text_is a c n l p hn (by omega) (by omega) hp W (hg.below hB) (h1.below hB)
  clear h1 hj hp hg hn
  go_enter Tryz.func20, Tryz.ntmps20
  go_wp2_with fail
  refine (hcon _ (Below.refl _ _)).mono ?_
  rintro e w1 ⟨rfl, hb⟩
  go_wp2_with fail
  go_ret
  exact ⟨rfl, hb⟩

end Go.Proofs.YtenpjfkiehcjlaaGreatDoor
