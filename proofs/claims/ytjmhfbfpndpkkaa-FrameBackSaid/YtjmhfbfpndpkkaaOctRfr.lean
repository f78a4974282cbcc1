/- What the reference's reader answers and leaves. -/
import Derived.Test.YtjmhfbfpndpkkaaOctRef
set_option linter.unusedVariables false
namespace Go.Proofs.Ytjmhfbfpndpkkaa
open Go.RowKit

end Go.Proofs.Ytjmhfbfpndpkkaa
