/- Flows: all of them: the loop; the sort is a hypothesis. Made by genflowthall.py. -/
import Derived.Test.YtdhimlkndpiacaaGreatGHZ
set_option linter.unusedVariables false
set_option linter.unusedSimpArgs false
namespace Go.Proofs.YtdhimlkndpiacaaGreat
open Go.RowKit

def isAll (f : FlD) : Bool := true
end Go.Proofs.YtdhimlkndpiacaaGreat
