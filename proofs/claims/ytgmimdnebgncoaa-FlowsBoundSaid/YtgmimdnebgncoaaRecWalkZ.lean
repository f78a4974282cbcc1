/- Records: what a writer's walk over a record puts; Encode of package record. -/
import Derived.Test.YtgmimdnebgncoaaRecBksZ
import Derived.Test.YtgmimdnebgncoaaRecInZ
set_option linter.unusedVariables false
set_option linter.unusedSimpArgs false
namespace Go.Proofs.Ytgmimdnebgncoaa
open Go.RowKit

/-- The body of a record. -/
def bodyF (r : RecD) (v : Int) : List Nat :=
  if r.kind = 1 then flowF r v
  else if r.kind = 2 then tbF r.t
  else if r.kind = 3 then beB 4 (u64N r.gen) ++ (beB 1 (u64N r.bs.length) ++ bksF v r.bs)
  else if r.kind = 4 then beB 2 (u64N r.be) ++ beB 8 (u64N r.un)
  else if r.kind = 5 then beB 2 (u64N r.be)
  else beB 4 (u64N r.ct)
structure RecLess (r : RecD) : Prop where
  fg : r.kind = 1 → 0 ≤ r.fg ∧ r.fg ≤ 4294967295
  gen : r.kind = 3 → 0 ≤ r.gen ∧ r.gen ≤ 4294967295
  ct : r.kind = 6 → 0 ≤ r.ct ∧ r.ct ≤ 4294967295
  bs : r.kind = 3 → r.bs.length ≤ 16

end Go.Proofs.Ytgmimdnebgncoaa
