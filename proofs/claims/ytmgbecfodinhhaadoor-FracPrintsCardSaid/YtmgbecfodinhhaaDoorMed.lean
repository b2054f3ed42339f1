/- The mediant: the program's and the reference's. -/
import Derived.Test.YtmgbecfodinhhaaDoorOne
namespace Go.Proofs.YtmgbecfodinhhaaDoor
open Go.RowKit

end Go.Proofs.YtmgbecfodinhhaaDoor
