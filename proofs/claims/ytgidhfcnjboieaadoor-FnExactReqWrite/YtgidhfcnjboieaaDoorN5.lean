/- FnExactReqOk, walked. -/
import Derived.Test.YtgidhfcnjboieaaDoorB0
import Derived.Test.YtgidhfcnjboieaaDoorN4
namespace Go.Proofs.YtgidhfcnjboieaaDoor
open Go.RowKit

set_option maxRecDepth 100000 in
set_option maxHeartbeats 2000000 in
theorem szReq_any (w : World) (kd : Int) (tn us sp : ByteArray) (run num : Int) (tx : ByteArray) (h1 : tn.size ≤ 9223372036854775807) (h2 : us.size ≤ 9223372036854775807) (h3 : sp.size ≤ 9223372036854775807) (h4 : tx.size ≤ 9223372036854775807) :
    Calls Tryd.prog 19 #[.agg #[.int .i64 kd, .string tn, .string us, .string sp, .int .i64 run, .int .i64 num, .string tx], .int .i64 1048576] w fun e w' => ∃ r : Int, e = .returned (.int .i64 r) ∧ (r < 0 ∨ (0 ≤ r ∧ tn.size ≤ 1048576 ∧ us.size ≤ 1048576 ∧ sp.size ≤ 1048576 ∧ tx.size ≤ 1048576)) ∧ w.grownBy w' none := by
  have HG := Lib.hid (show w.grownBy (w.alloc (Obj.cells #[Value.int .i64 kd, .string tn, .string us, .string sp, .int .i64 run, .int .i64 num, .string tx] 39)) none from grown_alloc (grown_refl _ _) _)
  by_cases a1 : (1048576 : Int) < tn.size
  · go_enter Tryd.func19, Tryd.ntmps19
    go_wp2
    go_ret
    exact ⟨-1, rfl, .inl (by omega), HG.out⟩
  by_cases a2 : (1048576 : Int) - tn.size < us.size
  · go_enter Tryd.func19, Tryd.ntmps19
    go_wp2
    go_ret
    exact ⟨-1, rfl, .inl (by omega), HG.out⟩
  by_cases a3 : (1048576 : Int) - tn.size - us.size < sp.size
  · go_enter Tryd.func19, Tryd.ntmps19
    go_wp2
    go_ret
    exact ⟨-1, rfl, .inl (by omega), HG.out⟩
  by_cases a4 : (1048576 : Int) - tn.size - us.size - sp.size < tx.size
  · go_enter Tryd.func19, Tryd.ntmps19
    go_wp2
    go_ret
    exact ⟨-1, rfl, .inl (by omega), HG.out⟩
  go_enter Tryd.func19, Tryd.ntmps19
  go_wp2
  go_ret
  exact ⟨_, rfl, .inr ⟨by omega, by omega, by omega, by omega, by omega⟩, HG.out⟩

theorem info47 : (Tryd.prog.info? 42).map (·.size) = some 7 := by kernel_rfl

set_option maxRecDepth 100000 in
set_option maxHeartbeats 2000000 in
theorem toReq_any (w : World) (kd : Int) (tn us sp : ByteArray) (run num : Int) (tx : ByteArray) :
    Calls Tryd.prog 21 #[.agg #[.int .i64 kd, .string tn, .string us, .string sp, .int .i64 run, .int .i64 num, .string tx]] w fun e w' => e = .returned (.agg #[.int .i64 kd, .string tn, .string us, .string sp, .int .i64 run, .int .i64 num, .string tx]) ∧ w.grownBy w' none := by
  have HB := Lib.hid (show Blk ((w.alloc (Obj.cells #[Value.int .i64 kd, .string tn, .string us, .string sp, .int .i64 run, .int .i64 num, .string tx] 39)).alloc (Obj.cells #[Value.int .i64 kd, .string tn, .string us, .string sp, .int .i64 run, .int .i64 num, .string tx] 42)) (w.heap.size + 1) 42 [Value.int .i64 kd, .string tn, .string us, .string sp, .int .i64 run, .int .i64 num, .string tx] from by
    have := Blk.new (w.alloc (Obj.cells #[Value.int .i64 kd, .string tn, .string us, .string sp, .int .i64 run, .int .i64 num, .string tx] 39)) 42 [Value.int .i64 kd, .string tn, .string us, .string sp, .int .i64 run, .int .i64 num, .string tx]
    simpa using this)
  go_enter Tryd.func21, Tryd.ntmps21
  go_wp2
  exact ⟨rfl, _, results_blk1 Tryd.results21 _ _ (w.heap.size + 1) 42 _ _ (HB.out.alloc _) Tryd.underlying42 rfl info47 rfl, rfl, grown_alloc (grown_alloc (grown_alloc (grown_refl _ _) _) _) _⟩

end Go.Proofs.YtgidhfcnjboieaaDoor
