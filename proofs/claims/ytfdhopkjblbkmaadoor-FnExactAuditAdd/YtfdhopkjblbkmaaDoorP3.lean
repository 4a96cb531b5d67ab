/- Texts and lists of texts, copied by the program. -/
import Derived.Test.YtfdhopkjblbkmaaDoorP2
import Derived.Shelf.Lay
import Derived.Shelf.LaysM
import Derived.Shelf.Strconv.Clone
namespace Go.Proofs.YtfdhopkjblbkmaaDoor
open Go.RowKit

shelf_lay LaysM.n316 Nm 316 at Tryd as Tryd.laysClone

theorem cloneL_any (w : World) (s : ByteArray) (hs : s.size ≤ 1048576) : Calls Tryd.prog 57 #[.string s] w fun e w' => e = .returned (.string s) ∧ w.grownBy w' none := by
  refine (Any.stringslite_Clone Tryd.laysClone s w (by omega)).mono ?_
  rintro e w' ⟨rfl, hb⟩
  exact ⟨rfl, grown_of_below hb none⟩

set_option maxHeartbeats 1000000 in
theorem clone_any (w : World) (s : ByteArray) (hs : s.size ≤ 1048576) : Calls Tryd.prog 49 #[.string s] w fun e w' => e = .returned (.string s) ∧ w.grownBy w' none := by
  have HC := Lib.hid (cloneL_any w s hs)
  go_enter Tryd.func49, Tryd.ntmps49
  go_wp2_with fail
  refine HC.out.mono ?_
  rintro e w1 ⟨rfl, hg⟩
  have HG := Lib.hid hg
  clear hg HC
  go_wp2
  go_ret
  exact ⟨rfl, HG.out⟩

end Go.Proofs.YtfdhopkjblbkmaaDoor
