/- A tuple's hash; a backend by its number; a chooser that there isn't. -/
import Derived.Test.YtgmimdnebgncoaaChoZ
import Derived.Test.YtgmimdnebgncoaaRecWZ
import Derived.Test.YtgmimdnebgncoaaGCZ
import Derived.Deep.DeepCutAuto
set_option linter.unusedVariables false
namespace Go.Proofs.Ytgmimdnebgncoaa
open Go.RowKit

def bkZ : BkD := ⟨0, 0, 0⟩
/-- A backend as a value. -/
def bkV' (b : BkD) : Value := .agg #[.int .i64 b.id, .int .u32 b.addr, .int .i64 b.weight]

def hashF (t : TupD) : Nat := mixF 0 (tbF t)
theorem hashF_lt (t : TupD) : hashF t < 4294967296 := mixF_lt _ _
def findF (bs : List BkD) (id : Int) : Option BkD := bs.find? (fun b => b.id == id)
def findV (bs : List BkD) (id : Int) : Value := match findF bs id with
  | some b => .tuple #[bkV' b, .bool true]
  | none => .tuple #[bkV' bkZ, .bool false]

end Go.Proofs.Ytgmimdnebgncoaa
