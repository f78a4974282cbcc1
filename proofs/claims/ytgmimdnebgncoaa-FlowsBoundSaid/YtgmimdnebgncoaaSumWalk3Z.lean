/- What Net, Fix, Mix of package sum answer, and the reference's own. -/
import Derived.Test.YtgmimdnebgncoaaSumWalk2Z
set_option linter.unusedVariables false
namespace Go.Proofs.Ytgmimdnebgncoaa
open Go.RowKit

theorem or8 (x y : Nat) (hx : x < 256) (hy : y < 256) : bits BinOp.or IntKind.u32 ((x : Int) * 256) (y : Int) = (x : Int) * 256 + y :=
  bits_join .u32 32 (by decide) (fun n a b => by rw [IntKind.wrap_u32]; omega) 8 _ _ (by omega) (by omega) (by omega) (by omega) (by omega) (by omega)

def fixF (sum old now : Int) : Int := foldF (65535 - sum + (65535 - old) + now)

end Go.Proofs.Ytgmimdnebgncoaa
