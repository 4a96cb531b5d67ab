/- The document's model of GraphBelow. -/
import Derived.Test.YtklkfphpoheanaaDoorP2
namespace Go.Proofs.YtklkfphpoheanaaDoor
open Go.RowKit

theorem Row.empty {w : World} {base g : Nat} (hb : base ≤ g) (hl : g < w.heap.size) : Row w base (.slice (some ⟨g, 0, none⟩) 0 0) (ints []) :=
  .inr ⟨g, 0, rfl, hb, hl, Nat.le_refl _, fun _ hj => absurd hj (Nat.not_lt_zero _), fun _ hj => absurd hj (Nat.not_lt_zero _)⟩
theorem follows : Tryd.prog.follows .mixedOrders = true := by kernel_rfl

end Go.Proofs.YtklkfphpoheanaaDoor
