/- Small facts on empty slices and empty credentials (FA has the same). -/
import Derived.Test.YtecekbhkombnnaaGreatDoorEA
namespace Go.Proofs.YtecekbhkombnnaaGreatDoor
open Go.RowKit

theorem Row.empty0 {w : World} {base g : Nat} (h1 : base ≤ g) (h2 : g < w.heap.size) : Row w base (.slice (some ⟨g, 0, none⟩) 0 0) (strs []) :=
  .inr ⟨g, 0, rfl, h1, h2, Nat.le_refl _, fun _ hj => absurd hj (Nat.not_lt_zero _), fun _ hj => absurd hj (Nat.not_lt_zero _)⟩
theorem capZ0_one : ∀ x ∈ (capC ⟨#[]⟩ ⟨#[]⟩ 0 0 0 (.slice none 0 0) ⟨#[]⟩), x.oneCell' = true := capC_one _ _ _ _ _ _ _ rfl
theorem infoStr0 : (Tryz.prog.info? 9).map (fun i => (i.zero, i.size, i.bytes)) = some (some (.string ⟨#[]⟩), 1, 16) := by kernel_rfl
end Go.Proofs.YtecekbhkombnnaaGreatDoor
