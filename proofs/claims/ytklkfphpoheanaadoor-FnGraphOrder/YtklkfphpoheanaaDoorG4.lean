/- impl.GraphBelow. -/
import Derived.Test.YtklkfphpoheanaaDoorG3
import Derived.Test.YtklkfphpoheanaaDoorR1
namespace Go.Proofs.YtklkfphpoheanaaDoor
open Go.RowKit

theorem info3 : (Tryd.prog.info? 3).map (fun i => (i.zero, i.size, i.bytes)) = some (some (.int .i64 0), 1, 8) := by kernel_rfl
theorem adj_in (n : Nat) (hn : n ≤ 16) (E : List (Int × Int)) (h : ∀ e ∈ E, In16 n e) : ∀ a ∈ adj E, a < 65536 := adj_lt E (fun e he => by have := h e he; unfold In16 at this; omega)
def belowL (A : List Nat) (n one : Nat) : List Int := filtL (fun j => (visit A n (n + 1) one 0).testBit j) n

end Go.Proofs.YtklkfphpoheanaaDoor
