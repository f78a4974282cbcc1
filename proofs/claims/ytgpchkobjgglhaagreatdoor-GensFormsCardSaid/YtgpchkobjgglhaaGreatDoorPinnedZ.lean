/- A world for the witness of a row that lists the library's great table: what the door's run lays, and the table. -/
import Derived.Test.YtgpchkobjgglhaaGreatDoorRows
import Derived.LaidMore
namespace Go.Proofs.YtgpchkobjgglhaaGreatDoor

def firstCells : Array Value := (match (Rows.laid_unicode_utf8_first : DataW Unit) with
  | .agg l => l.map fun (d : DataW Unit) => match d with | .lit (.int k n) => Value.int k n | _ => undef
  | _ => []).toArray
noncomputable def pinnedDoor (n : Nat) (os : Os) : World :=
  { World.doorLaid Tryz.prog n os with heap := (World.doorLaid Tryz.prog n os).heap.modify 4 fun
      | .cells _ t frozen => .cells firstCells t frozen
      | o => o }
end Go.Proofs.YtgpchkobjgglhaaGreatDoor
