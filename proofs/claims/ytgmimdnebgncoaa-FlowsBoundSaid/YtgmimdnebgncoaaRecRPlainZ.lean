/- Records: what the reference's PlainRecord answers. -/
import Derived.Test.YtgmimdnebgncoaaGCZ
set_option linter.unusedVariables false
set_option linter.unusedSimpArgs false
namespace Go.Proofs.Ytgmimdnebgncoaa
open Go.RowKit

end Go.Proofs.Ytgmimdnebgncoaa
