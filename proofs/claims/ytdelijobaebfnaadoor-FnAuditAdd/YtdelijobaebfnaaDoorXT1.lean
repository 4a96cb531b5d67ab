/- What the rows' lists give: the tables' cells; a world that holds them. -/
import Derived.Test.YtdelijobaebfnaaDoorXE1
import Derived.Test.YtdelijobaebfnaaDoorCards
import Derived.Test.YtdelijobaebfnaaDoorTie
import Derived.ProofKit
import Derived.OpenShut
import Derived.OpenVars
import Derived.Deep.DeepHandedRow
import Derived.Lib.LaidTab
import Derived.Stop.LaidErr
namespace Go.Proofs.YtdelijobaebfnaaDoor
open Go.ChangeShapes Go.WideShapes Go.ChangeAt Go.RowKit

theorem own : ownKnob Tryd.prog.godebug = none := by kernel_rfl
theorem laidOut : laidOutB Tryd.prog = true := by kernel_rfl
theorem gStart : Tryd.prog.globalNamed "loop.example/portreeve/impl.hashStart" = some 1 := by kernel_rfl
theorem gStartType : (Tryd.prog.globals[1]?).map (·.type) = some 91 := by kernel_rfl
theorem gKeys : Tryd.prog.globalNamed "loop.example/portreeve/impl.hashKeys" = some 2 := by kernel_rfl
theorem gKeysType : (Tryd.prog.globals[2]?).map (·.type) = some 138 := by kernel_rfl
theorem cellsOf50 : Tryd.prog.cellsOf 89 = 1 := by kernel_rfl
theorem cellsOf52 : Tryd.prog.cellsOf 91 = 8 := by kernel_rfl
theorem cellsOf84 : Tryd.prog.cellsOf 138 = 64 := by kernel_rfl
theorem startData : (Rows.laid_loop_example_portreeve_impl_hashStart : DataW Unit) = Lib.tabData .u32 H0 := rfl
theorem keysData : (Rows.laid_loop_example_portreeve_impl_hashKeys : DataW Unit) = Lib.tabData .u32 K0 := rfl

theorem tabs_of {W : World} (h1 : Lib.TabIs Tryd.prog W "loop.example/portreeve/impl.hashStart" .u32 H0) (h2 : Lib.TabIs Tryd.prog W "loop.example/portreeve/impl.hashKeys" .u32 K0) : Tabs W := by
  refine ⟨fun j hj => ?_, fun k hk => ?_⟩
  · have := h1.cell gStart j (show j < H0.length from hj)
    exact this
  · have := h2.cell gKeys k (show k < K0.length from hk)
    exact this

theorem tabs_two {W : World} (h : laidMetH Tryd.prog [("loop.example/portreeve/impl.hashStart", Rows.laid_loop_example_portreeve_impl_hashStart), ("loop.example/portreeve/impl.hashKeys", Rows.laid_loop_example_portreeve_impl_hashKeys)] W) : Tabs W := by
  have h' : laidMet Tryd.prog [("loop.example/portreeve/impl.hashStart", Lib.tabData .u32 H0), ("loop.example/portreeve/impl.hashKeys", Lib.tabData .u32 K0)] W := h
  exact tabs_of (Lib.tabIs_of_head gStart gStartType Tryd.underlying91 Tryd.underlying89 cellsOf50 cellsOf52 h') (Lib.tabIs_of_head gKeys gKeysType Tryd.underlying138 Tryd.underlying89 cellsOf50 cellsOf84 (laidMet.tail h'))

def setTab (C : Array Value) : Obj → Obj
  | .cells _ t frozen => .cells C t frozen
  | o => o
/-- A WORLD FOR THE WITNESS: the two tables holding what their initialisers lay. -/
def layTabs (w : World) : World := { w with heap := (w.heap.modify 1 (setTab (u32s H0).toArray)).modify 2 (setTab (u32s K0).toArray) }

end Go.Proofs.YtdelijobaebfnaaDoor
