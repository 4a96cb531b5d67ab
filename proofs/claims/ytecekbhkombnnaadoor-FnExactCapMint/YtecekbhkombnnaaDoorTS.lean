/- Lists of texts, copied by the laws into a block of their own. -/
import Derived.Test.YtecekbhkombnnaaDoorM1
import Derived.Test.YtecekbhkombnnaaDoorB0
namespace Go.Proofs.YtecekbhkombnnaaDoor
open Go.RowKit

theorem Blk.row {w : World} {g : Nat} {t : TypeId} {ss : List ByteArray} (h : Blk w g t (strs ss)) (base : Nat) (hb : base ≤ g) : Row w base (.slice (some ⟨g, 0, none⟩) ss.length ss.length) (strs ss) := by
  refine .inr ⟨g, ss.length, by rw [strs_len], hb, h.lt, by rw [strs_len]; exact Nat.le_refl _, fun j hj => ?_, fun j hj => ?_⟩
  · rw [h.cell (List.getElem?_eq_getElem hj), List.getElem?_eq_getElem hj]
  · have hj' : j < (strs ss).length := by rw [strs_len]; exact hj
    exact ⟨by rw [h.cell (List.getElem?_eq_getElem hj')]; rfl, h.frozen j⟩
theorem Blk.lies {w : World} {g : Nat} {t : TypeId} {ss : List ByteArray} (h : Blk w g t (strs ss)) : Lies w g (some ⟨g, 0, none⟩) ss := by
  refine .inr ⟨g, 0, rfl, Nat.le_refl _, fun j hj => ?_⟩
  rw [Nat.zero_add]
  exact h.cell (by simp [strs, hj])

end Go.Proofs.YtecekbhkombnnaaDoor
