import Derived.Test.YtpjdcgjoepjmcaaGreatGCZ
set_option linter.unusedVariables false
namespace Go.Proofs.YtpjdcgjoepjmcaaGreat
open Go.ChangeShapes Go.WideShapes Go.ChangeAt Go.RowKit
end Go.Proofs.YtpjdcgjoepjmcaaGreat
