/- What the exact laws of the graphs compare and mark by. -/
import Derived.Test.YtklkfphpoheanaaDoorS1
import Derived.Test.YtklkfphpoheanaaDoorG4
namespace Go.Proofs.YtklkfphpoheanaaDoor
open Go.RowKit

theorem szN_any (w : World) (ao : Option Addr) (n cap : Nat) (hn : n ≤ 9223372036854775807) : Calls Tryd.prog 14 #[.slice ao n cap, .int .i64 1048576] w fun e w' => ∃ r : Int, e = .returned (.int .i64 r) ∧ (0 ≤ r → n ≤ 1048576) ∧ w' = w := by
  by_cases h : (1048576 : Int) - n < 0
  · go_enter Tryd.func14, Tryd.ntmps14
    go_wp2
    go_ret
    exact ⟨-1, rfl, fun h => absurd h (by decide), rfl⟩
  · have h' : (0 : Int) ≤ 1048576 - n := by omega
    go_enter Tryd.func14, Tryd.ntmps14
    go_wp2
    go_ret
    exact ⟨1048576 - n, rfl, fun _ => by omega, rfl⟩

theorem toNeed_any (w : World) (f g : Int) : Calls Tryd.prog 30 #[.agg #[.int .i64 f, .int .i64 g]] w fun e w' => e = .returned (.agg #[.int .i64 f, .int .i64 g]) ∧ w.grownBy w' none := by
  go_enter Tryd.func30, Tryd.ntmps30
  go_wp2
  refine bodyPost_ret (v := .agg #[.int .i64 f, .int .i64 g]) (by simp [results, Tryd.results30, go_sem]) rfl ⟨rfl, ?_⟩
  exact grown_alloc (grown_alloc (grown_alloc (grown_refl _ _) _) _) _

theorem eqNeed_same (w : World) (f g : Int) : Calls Tryd.prog 31 #[.agg #[.int .i64 f, .int .i64 g], .agg #[.int .i64 f, .int .i64 g]] w fun e w' => e = .returned (.bool true) ∧ w.grownBy w' none := by
  go_enter Tryd.func31, Tryd.ntmps31
  go_wp2
  go_ret
  exact ⟨rfl, grown_alloc (grown_alloc (grown_refl _ _) _) _⟩

end Go.Proofs.YtklkfphpoheanaaDoor
