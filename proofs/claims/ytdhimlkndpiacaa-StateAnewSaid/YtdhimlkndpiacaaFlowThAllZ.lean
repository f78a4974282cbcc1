/- Flows: all of them: the loop; the sort is a hypothesis. Made by genflowthall.py. -/
import Derived.Test.YtdhimlkndpiacaaGHZ
set_option linter.unusedVariables false
set_option linter.unusedSimpArgs false
namespace Go.Proofs.Ytdhimlkndpiacaa
open Go.RowKit

def isAll (f : FlD) : Bool := true
end Go.Proofs.Ytdhimlkndpiacaa
