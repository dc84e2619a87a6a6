/-
  The contracts of package btree, put together.
-/
import Derived.Test.YtfikaccgpjiedaaJJ33
import Derived.Test.YtfikaccgpjiedaaJJ34
namespace Go.Proofs.Ytfikaccgpjiedaa
open Go.RowKit Go.Lib

theorem treeSpec : Nonempty TreeSpec := ⟨{
  Is := Top
  stay := fun h hs => h.stay hs
  lt := fun h => h.lt
  srt := fun h => h.srt
  wf := fun h => h.wf
  new_is := tnew_is
  put_is := fun w g L F G a c n key id z hn h7 hL hk hG hid hz ht => tput_is w g L F G a c n key id z hn h7 hL hk hG hid hz ht
  del_is := fun w g L F G a c n key id z hn h7 hL hk hG _ hz ht => tdel_is w g L F G a c n key id z hn h7 hL hk hG hz ht
  walk_is := fun w g L F a a' c c' n n' lo hi h1 h2 _ _ hL hk hk2 ht => twalk_is w g L F a a' c c' n n' lo hi h1 h2 hL hk hk2 ht
  find_is := fun w g L F a c n key hn _ hL hk ht => tfind_is w g L F a c n key hn hL hk ht
  len_is := fun w g L F _ ht => tlen_is w g L F ht
  height_is := fun w g L F hL ht => theight_is w g L F hL ht
  well_is := fun w g L F hL ht => twell_is w g L F hL ht
  copy_is := fun w g L F _ ht => tcopy_is w g L F ht }⟩

end Go.Proofs.Ytfikaccgpjiedaa

