/- Records: what Plain of package record answers, but for a set of backends. -/
import Derived.Test.YtfjnhaoiecndpaaRec
set_option linter.unusedVariables false
set_option linter.unusedSimpArgs false
namespace Go.Proofs.Ytfjnhaoiecndpaa
open Go.RowKit

end Go.Proofs.Ytfjnhaoiecndpaa
