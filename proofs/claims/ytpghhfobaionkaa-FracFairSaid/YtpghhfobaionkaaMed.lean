/- The mediant: the program's and the reference's. -/
import Derived.Test.YtpghhfobaionkaaOne
namespace Go.Proofs.Ytpghhfobaionkaa
open Go.RowKit

end Go.Proofs.Ytpghhfobaionkaa
