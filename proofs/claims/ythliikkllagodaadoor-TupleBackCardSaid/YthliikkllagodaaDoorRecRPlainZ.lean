/- Records: what the reference's PlainRecord answers. -/
import Derived.Test.YthliikkllagodaaDoorGCZ
set_option linter.unusedVariables false
set_option linter.unusedSimpArgs false
namespace Go.Proofs.YthliikkllagodaaDoor
open Go.RowKit

end Go.Proofs.YthliikkllagodaaDoor
