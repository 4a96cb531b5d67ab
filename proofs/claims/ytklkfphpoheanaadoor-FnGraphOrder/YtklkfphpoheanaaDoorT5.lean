/- What the rows' list of one table gives; a world that holds it. -/
import Derived.Test.YtklkfphpoheanaaDoorK0
import Derived.Test.YtklkfphpoheanaaDoorC1
import Derived.Test.YtklkfphpoheanaaDoorCards
import Derived.Test.YtklkfphpoheanaaDoorTie
import Derived.Lib.LaidTab
namespace Go.Proofs.YtklkfphpoheanaaDoor
open Go.ChangeShapes Go.WideShapes Go.ChangeAt Go.RowKit

theorem gTab : Tryd.prog.globalNamed "math/bits.deBruijn32tab" = some 0 := by kernel_rfl
theorem gTabType : (Tryd.prog.globals[0]?).map (·.type) = some 86 := by kernel_rfl
theorem cellsOf5 : Tryd.prog.cellsOf 5 = 1 := by kernel_rfl
theorem cellsOf86 : Tryd.prog.cellsOf 86 = 32 := by kernel_rfl
theorem tabData : (Rows.laid_math_bits_deBruijn32tab : DataW Unit) = Lib.tabData .u8 B0 := by kernel_rfl
theorem tabs_of {W : World} (h : laidMetH Tryd.prog [("math/bits.deBruijn32tab", Rows.laid_math_bits_deBruijn32tab)] W) : Tabs W := by
  have h0 : laidMet Tryd.prog [("math/bits.deBruijn32tab", (Rows.laid_math_bits_deBruijn32tab : DataW Unit))] W := h
  rw [tabData] at h0
  have h1 := Lib.tabIs_of_head gTab gTabType Tryd.underlying86 Tryd.underlying5 cellsOf5 cellsOf86 h0
  exact ⟨fun j hj => h1.cell gTab j (show j < B0.length from hj)⟩

def setTab (C : Array Value) : Obj → Obj
  | .cells _ t frozen => .cells C t frozen
  | o => o
/-- A WORLD FOR THE WITNESS: the table holding what its initialiser lays. -/
def layTab (w : World) : World := { w with heap := w.heap.modify 0 (setTab #[.int .u8 0, .int .u8 1, .int .u8 28, .int .u8 2, .int .u8 29, .int .u8 14, .int .u8 24, .int .u8 3, .int .u8 30, .int .u8 22, .int .u8 20, .int .u8 15, .int .u8 25, .int .u8 17, .int .u8 4, .int .u8 8, .int .u8 31, .int .u8 27, .int .u8 13, .int .u8 23, .int .u8 21, .int .u8 19, .int .u8 16, .int .u8 7, .int .u8 26, .int .u8 12, .int .u8 18, .int .u8 6, .int .u8 11, .int .u8 5, .int .u8 10, .int .u8 9]) }

end Go.Proofs.YtklkfphpoheanaaDoor
