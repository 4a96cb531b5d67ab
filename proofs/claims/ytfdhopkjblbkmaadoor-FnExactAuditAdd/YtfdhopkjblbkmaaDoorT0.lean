/- Texts of numbers that are bytes. No program is named here. -/
import Derived.Test.YtfdhopkjblbkmaaDoorR0
namespace Go.Proofs.YtfdhopkjblbkmaaDoor
open Go.RowKit

def toB (M : List Int) : List UInt8 := M.map fun n => UInt8.ofNat n.toNat
def strI (M : List Int) : ByteArray := ⟨(toB M).toArray⟩
theorem strI_size (M : List Int) : (strI M).size = M.length := by
  show ((toB M).toArray).size = _
  simp [toB]

end Go.Proofs.YtfdhopkjblbkmaaDoor
