/- The graphs that the laws on orders and rings draw. -/
import Derived.Test.YtklkfphpoheanaaDoorW3
namespace Go.Proofs.YtklkfphpoheanaaDoor
open Go.RowKit

set_option maxRecDepth 100000 in
set_option maxHeartbeats 1000000 in
theorem drawOrder_any (w : World) (ao : Option Addr) (n cap : Nat) (hn : n ≤ 1048576) (hcap : n ≤ cap) (hc : n = 0 ∨ ∃ ab o, ao = some ⟨ab, o, none⟩ ∧ ∀ j, j < n → ∃ x : Int, 0 ≤ x ∧ x < 256 ∧ w.cell? ⟨ab, o + j, none⟩ = some (.int .u8 x)) :
    Calls Tryd.prog 6 #[.slice ao n cap] w fun e w' => ∃ (N : Int) (v : Value) (E : List (Int × Int)), e = .returned (.tuple #[.int .i64 N, v]) ∧ -1 ≤ N ∧ N ≤ 17 ∧ NR w' w.heap.size v E ∧ E.length ≤ 20 ∧ w.grownBy w' none := by
  have HO := Lib.hid (open_any w ao n cap hn hcap hc)
  clear hc
  go_enter Tryd.func6, Tryd.ntmps6
  go_wp2_with fail
  refine HO.out.mono ?_
  rintro e w1 ⟨rfl, ⟨n', hr1⟩, hg1⟩
  have HG1 := Lib.hid hg1
  have HGR := Lib.hid (graph_any w1 w.heap.size ao n' cap 0 hr1 (by omega))
  have hs1 := hg1.size
  have hrl := hr1.rlt
  clear hr1 hg1 HO
  go_wp2_with fail
  refine HGR.out.mono ?_
  rintro e w2 ⟨N, v, E, p', rfl, hN1, hN2, hnr, hEl, hr2, hp', hg2⟩
  have HNR := Lib.hid (hnr.base hs1)
  have HG2 := Lib.hid (show w.grownBy w2 none from grown_into HG1.out hg2 (Nat.le_refl _))
  clear hnr hr2 hg2 HGR
  go_wp2
  go_ret2
  exact ⟨N, v, E, rfl, hN1, hN2, HNR.out, hEl, HG2.out⟩

set_option maxRecDepth 100000 in
set_option maxHeartbeats 1000000 in
theorem drawCycle_any (w : World) (ao : Option Addr) (n cap : Nat) (hn : n ≤ 1048576) (hcap : n ≤ cap) (hc : n = 0 ∨ ∃ ab o, ao = some ⟨ab, o, none⟩ ∧ ∀ j, j < n → ∃ x : Int, 0 ≤ x ∧ x < 256 ∧ w.cell? ⟨ab, o + j, none⟩ = some (.int .u8 x)) :
    Calls Tryd.prog 13 #[.slice ao n cap] w fun e w' => ∃ (N : Int) (v : Value) (E : List (Int × Int)), e = .returned (.tuple #[.int .i64 N, v]) ∧ -1 ≤ N ∧ N ≤ 17 ∧ NR w' w.heap.size v E ∧ E.length ≤ 20 ∧ w.grownBy w' none := by
  have HO := Lib.hid (open_any w ao n cap hn hcap hc)
  clear hc
  go_enter Tryd.func13, Tryd.ntmps13
  go_wp2_with fail
  refine HO.out.mono ?_
  rintro e w1 ⟨rfl, ⟨n', hr1⟩, hg1⟩
  have HG1 := Lib.hid hg1
  have HGR := Lib.hid (graph_any w1 w.heap.size ao n' cap 0 hr1 (by omega))
  have hs1 := hg1.size
  have hrl := hr1.rlt
  clear hr1 hg1 HO
  go_wp2_with fail
  refine HGR.out.mono ?_
  rintro e w2 ⟨N, v, E, p', rfl, hN1, hN2, hnr, hEl, hr2, hp', hg2⟩
  have HNR := Lib.hid (hnr.base hs1)
  have HG2 := Lib.hid (show w.grownBy w2 none from grown_into HG1.out hg2 (Nat.le_refl _))
  clear hnr hr2 hg2 HGR
  go_wp2
  go_ret2
  exact ⟨N, v, E, rfl, hN1, hN2, HNR.out, hEl, HG2.out⟩
end Go.Proofs.YtklkfphpoheanaaDoor
