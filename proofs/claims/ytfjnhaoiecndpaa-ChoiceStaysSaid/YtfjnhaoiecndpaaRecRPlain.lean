/- Records: what the reference's PlainRecord answers. -/
import Derived.Test.YtfjnhaoiecndpaaRecClone
set_option linter.unusedVariables false
set_option linter.unusedSimpArgs false
namespace Go.Proofs.Ytfjnhaoiecndpaa
open Go.RowKit

end Go.Proofs.Ytfjnhaoiecndpaa
