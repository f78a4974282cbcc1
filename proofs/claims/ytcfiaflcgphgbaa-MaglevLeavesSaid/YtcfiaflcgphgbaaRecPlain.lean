/- Records: what Plain of package record answers, but for a set of backends. -/
import Derived.Test.YtcfiaflcgphgbaaRec
set_option linter.unusedVariables false
set_option linter.unusedSimpArgs false
namespace Go.Proofs.Ytcfiaflcgphgbaa
open Go.RowKit

end Go.Proofs.Ytcfiaflcgphgbaa
