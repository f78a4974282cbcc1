/- Records: what a writer's walk over a record puts. -/
import Derived.Test.YtgmimdnebgncoaaRecWZ
import Derived.Deep.DeepCutAuto
set_option linter.unusedVariables false
set_option linter.unusedSimpArgs false
namespace Go.Proofs.Ytgmimdnebgncoaa
open Go.RowKit

def flowF (r : RecD) (v : Int) : List Nat := tbF r.t ++ beB 2 (u64N r.fb) ++ (if v < 2 then [] else beB 4 (u64N r.fg)) ++ (if v < 3 then [] else beB 8 (u64N r.fs))
/-- The numbers of a record are in their bounds. -/
structure FlowOk (r : RecD) : Prop where
  t : TupOk r.t
  fb : -9223372036854775808 ≤ r.fb ∧ r.fb ≤ 9223372036854775807
  fg : 0 ≤ r.fg ∧ r.fg ≤ 4294967295
  fs : -9223372036854775808 ≤ r.fs ∧ r.fs ≤ 9223372036854775807

end Go.Proofs.Ytgmimdnebgncoaa
