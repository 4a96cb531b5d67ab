/- Credentials that are ok, by the document. -/
import Derived.Test.YtecekbhkombnnaaDoorCN
namespace Go.Proofs.YtecekbhkombnnaaDoor
open Go.RowKit

end Go.Proofs.YtecekbhkombnnaaDoor
