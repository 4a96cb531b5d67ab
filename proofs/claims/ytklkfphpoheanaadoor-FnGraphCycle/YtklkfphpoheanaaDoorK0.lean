/- What the rows give of the arguments. -/
import Derived.Test.YtklkfphpoheanaaDoorS1
import Derived.Test.YtklkfphpoheanaaDoorRows
import Derived.ProofKit
import Derived.OpenShut
import Derived.OpenVars
import Derived.Deep.DeepHandedRow
import Derived.Deep.SlicePairs
import Derived.Carry
import Derived.ChangeSlices
import Derived.Stop.LaidErr
namespace Go.Proofs.YtklkfphpoheanaaDoor
open Go.ChangeShapes Go.WideShapes Go.ChangeAt Go.RowKit

theorem own : ownKnob Tryd.prog.godebug = none := by kernel_rfl
theorem laidOut : laidOutB Tryd.prog = true := by kernel_rfl
theorem cells62 : Tryd.prog.cellsOf 56 = 2 := by kernel_rfl
theorem cells3 : Tryd.prog.cellsOf 3 = 1 := by kernel_rfl
theorem wf64 {n : Int} (h : (Lit.int .i64 n).wf = true) : -9223372036854775808 ≤ n ∧ n ≤ 9223372036854775807 := bounds_i64 h
/-- a list of needs that came in -/
theorem pairs_of {H : Type} {enc : TypeId × Value → H} {W : World} {ao : Option Addr} {n cap : Nat} {d : DataW H} {p : List MemPlace} (h : DataW.Trod enc Tryd.prog W 0 (fun _ => true) true 35 (.slice ao n cap) d p) :
    ∃ E : List (Int × Int), E.length = n ∧ NLies W ao E ∧ n ≤ 9223372036854775807 := by
  obtain ⟨fuel, hf⟩ := h
  rcases Deep.open_slice_pairs Tryd.underlying35 Tryd.underlying56 cells62 rfl rfl cells3 cells3 hf with ⟨hcs, _⟩ | ⟨a, len, cap', m, n', V0, V1, D0, D1, P0, P1, hcs, _, hl, hm, hmm, _, hcell⟩
  · simp [Value.cells] at hcs
    obtain ⟨rfl, rfl, rfl⟩ := hcs
    exact ⟨[], rfl, .inl rfl, by omega⟩
  · simp [Value.cells] at hcs
    obtain ⟨rfl, rfl, rfl⟩ := hcs
    simp only [if_true] at hmm
    unfold maxLen at hm
    refine ⟨(List.range n).map fun i => (intOf (V0 i), intOf (V1 i)), by simp, ?_, by omega⟩
    by_cases h0 : n = 0
    · exact .inl (by simp [h0])
    obtain ⟨ab, o, spot⟩ := a
    have hspot : spot = none := by simpa [Addr.add] using World.cell?_spot (hcell 0 (by omega)).1
    subst hspot
    refine .inr ⟨ab, o, rfl, fun j hj => ?_⟩
    have hj' : j < n := by simpa using hj
    obtain ⟨e0, e1, t0, t1⟩ := hcell j (by omega)
    obtain ⟨z0, hz0, -⟩ := DataW.trod_int Tryd.underlying3 t0
    obtain ⟨z1, hz1, -⟩ := DataW.trod_int Tryd.underlying3 t1
    simp at hz0 hz1
    rw [Addr.add_lit] at e0 e1
    have eg : ((List.range n).map fun i => (intOf (V0 i), intOf (V1 i))).getD j (0, 0) = (z0, z1) := by
      simp [hj', hz0, hz1, intOf]
    rw [eg, Nat.mul_comm]
    exact ⟨by rw [e0, hz0], by rw [← hz1]; simpa [Nat.add_assoc] using e1⟩

end Go.Proofs.YtklkfphpoheanaaDoor
