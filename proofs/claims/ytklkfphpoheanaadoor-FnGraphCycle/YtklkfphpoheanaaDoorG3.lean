/- The walk over those that one needs: impl's closure, and below. -/
import Derived.Test.YtklkfphpoheanaaDoorG2
import Derived.Test.YtklkfphpoheanaaDoorP1
namespace Go.Proofs.YtklkfphpoheanaaDoor
open Go.RowKit

end Go.Proofs.YtklkfphpoheanaaDoor
