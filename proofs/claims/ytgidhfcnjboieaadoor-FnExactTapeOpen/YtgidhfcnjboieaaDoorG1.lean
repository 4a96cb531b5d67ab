/- FnExactHouseGiven, walked: the id that the world gives for a key. -/
import Derived.Test.YtgidhfcnjboieaaDoorXE1
namespace Go.Proofs.YtgidhfcnjboieaaDoor
open Go.RowKit

/-- a text's sum, in figures -/
def sumT (s : ByteArray) : ByteArray := strI (hexL (sha (bI s)))
theorem sumT_size (s : ByteArray) : (sumT s).size = 64 := by
  unfold sumT
  rw [strI_size, hexL_len, sha_len]
theorem isum_any (w : World) (hw : Tabs w) (s : ByteArray) (hs : s.size ≤ 4194304) : Calls Tryd.prog 72 #[.string s] w fun e w' => e = .returned (.string (sumT s)) ∧ w.grownBy w' none := HashSum_any w hw s hs
theorem ssum_any (w : World) (s : ByteArray) (hs : s.size ≤ 4194304) : Calls Tryd.prog 70 #[.string s] w fun e w' => e = .returned (.string (sumT s)) ∧ w.grownBy w' none := by
  refine (specHashSum_any w s hs).mono ?_
  rintro e w' ⟨rfl, hg⟩
  exact ⟨by rw [sha_same _ (bI_b s)]; rfl, hg⟩
end Go.Proofs.YtgidhfcnjboieaaDoor
