/- Who is out where nobody is: leaving, says, Without; the backend of a number. -/
import Derived.Test.YtgmimdnebgncoaaMagAZ
import Derived.Test.YtgmimdnebgncoaaGCZ
import Derived.Defers
import Derived.Recover
import Derived.Laws.Pointers
set_option linter.unusedVariables false
namespace Go.Proofs.Ytgmimdnebgncoaa
open Go.RowKit

end Go.Proofs.Ytgmimdnebgncoaa
