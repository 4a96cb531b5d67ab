/- FnExactReqOk, walked. -/
import Derived.Test.YtecekbhkombnnaaDoorB0
import Derived.Test.YtecekbhkombnnaaDoorN4
namespace Go.Proofs.YtecekbhkombnnaaDoor
open Go.RowKit

theorem info47 : (Tryd.prog.info? 31).map (·.size) = some 7 := by kernel_rfl

end Go.Proofs.YtecekbhkombnnaaDoor
