/- Records: what the reference's PlainRecord answers. -/
import Derived.Test.YtibpnlhdpdfhiaaDoorGCZ
set_option linter.unusedVariables false
set_option linter.unusedSimpArgs false
namespace Go.Proofs.YtibpnlhdpdfhiaaDoor
open Go.RowKit

end Go.Proofs.YtibpnlhdpdfhiaaDoor
