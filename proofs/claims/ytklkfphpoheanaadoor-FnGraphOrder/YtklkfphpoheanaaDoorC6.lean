/- slices.Grow from nothing, slices.Concat of two. -/
import Derived.Test.YtklkfphpoheanaaDoorR2
import Derived.Test.YtklkfphpoheanaaDoorC2
import Derived.Test.YtklkfphpoheanaaDoorG4
import Derived.Lib.AppendZeros
namespace Go.Proofs.YtklkfphpoheanaaDoor
open Go.RowKit

set_option maxRecDepth 100000 in
set_option maxHeartbeats 1000000 in
theorem grow_any (w : World) (m : Nat) (h0 : 0 < m) (h1 : m ≤ 16) : Calls Tryd.prog 52 #[.slice none 0 0, .int .i64 m] w fun e w' => ∃ v, e = .returned v ∧ Row w' w.heap.size v (ints []) ∧ w.grownBy w' none := by
  have hmI : ¬ (m : Int) < 0 := by omega
  have hm0 : 0 < (m : Int) := by omega
  have hm1 : (m : Int) ≤ 16 := by omega
  obtain ⟨i3, hi3, hz0, hz1, hz2⟩ := info_parts info3
  have HRUN := Lib.hid (fun ty => Lib.run_append_nil_zeros (P := Tryd.prog) w 26 3 ty 3 i3 _ .i64 .i64 Tryd.underlying26 Tryd.underlying3 hi3 hz0 m h0 (by omega) (by omega) (by rw [hz2]; omega))
  have HROW := Lib.hid (show Row (w.drew.alloc (.cells (Builtin.zeroCells (Value.int .i64 0).cells m ++ Builtin.zeroCells (Value.int .i64 0).cells (grownCap w m 0 3 - m)) 3)) w.heap.size (.slice (some ⟨w.heap.size, 0, none⟩) 0 (grownCap w m 0 3)) (ints []) from Row.made w.drew 3 _ _ (by
    have hge := grownCap_ge w m 0 3
    rw [Array.size_append, size_zeroCells, size_zeroCells]
    show m * 1 + (grownCap w m 0 3 - m) * 1 = grownCap w m 0 3
    omega))
  have HG := Lib.hid (show w.grownBy (w.drew.alloc (.cells (Builtin.zeroCells (Value.int .i64 0).cells m ++ Builtin.zeroCells (Value.int .i64 0).cells (grownCap w m 0 3 - m)) 3)) none from grown_alloc (grown_drew (grown_refl _ _)) _)
  obtain ⟨cp, hcp⟩ : ∃ cp, cp = grownCap w m 0 3 := ⟨_, rfl⟩
  rw [← hcp] at HRUN HROW HG
  clear hcp hz0 hz1 hz2 hi3
  generalize Obj.cells (Builtin.zeroCells (Value.int .i64 0).cells m ++ Builtin.zeroCells (Value.int .i64 0).cells (cp - m)) 3 = OB at HRUN HROW HG
  go_enter Tryd.func52, Tryd.ntmps52
  go_wp2_with (first | ((with_reducible refine Lib.wpList_append_run _ ?_ (.tmp 20) (.tmp 21) 26 3 ?_ _ _ ?_ ?_ _ _ (HRUN.out _) ?_); exact rfl; exact rfl; exact rfl; exact rfl))
  go_ret
  exact ⟨_, rfl, HROW.out, HG.out⟩
end Go.Proofs.YtklkfphpoheanaaDoor
