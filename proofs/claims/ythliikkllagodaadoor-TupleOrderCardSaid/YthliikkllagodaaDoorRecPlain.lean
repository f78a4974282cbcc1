/- Records: what Plain of package record answers, but for a set of backends. -/
import Derived.Test.YthliikkllagodaaDoorRec
set_option linter.unusedVariables false
set_option linter.unusedSimpArgs false
namespace Go.Proofs.YthliikkllagodaaDoor
open Go.RowKit

end Go.Proofs.YthliikkllagodaaDoor
