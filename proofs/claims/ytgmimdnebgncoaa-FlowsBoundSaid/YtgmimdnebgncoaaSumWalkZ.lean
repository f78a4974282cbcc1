/- What the functions of package sum answer: low, Fold, Part, Net, Fix, and the reference's own. Conditions: the numbers lie within their kinds; the bytes are read as a row of bytes. -/
import Derived.Test.YtgmimdnebgncoaaGAZ
import Derived.Test.YtgmimdnebgncoaaSumMathZ
import Derived.WalkKit
import Derived.WalkLawsBesides
import Derived.LoopTactic
import Derived.Outline
import Derived.Below
import Derived.Lib.Hide
import Derived.Deep.QuietTactic
import Derived.BigQuiet
set_option linter.unusedVariables false
namespace Go.Proofs.Ytgmimdnebgncoaa
open Go.RowKit

end Go.Proofs.Ytgmimdnebgncoaa
