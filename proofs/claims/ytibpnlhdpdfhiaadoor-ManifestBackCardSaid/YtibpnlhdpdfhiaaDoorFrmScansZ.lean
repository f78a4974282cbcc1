/- Frames one behind the other: what Scan of package frame answers, and the reference's. -/
import Derived.Test.YtibpnlhdpdfhiaaDoorFrmScanZ
import Derived.Test.YtibpnlhdpdfhiaaDoorFrmRTakeZ
set_option linter.unusedVariables false
namespace Go.Proofs.YtibpnlhdpdfhiaaDoor
open Go.RowKit

/-- What Scan hands back. -/
def ScanIs (w w' : World) (xs : List Nat) (e : Ending) : Prop :=
  ∃ (a' : Option Addr) (cap' : Nat) (fs : List FrD), e = .returned (.tuple #[.slice a' fs.length cap', .int .i64 ((scanX xs).2.1 : Nat), .int .i64 ((scanX xs).2.2 : Nat)]) ∧ fs.map FrD.val = (scanX xs).1 ∧ OwnF w' w.heap.size (.slice a' fs.length cap') fs ∧ Touch w w' (fun _ => False)
/-- What stands at the head of its loop. -/
def ScanAt (w : World) (xs : List Nat) (len : Nat) (l i : Value) (wr : World) : Prop :=
  ∃ (k : Nat) (a : Option Addr) (c : Nat) (fs : List FrD), k ≤ len ∧ i = .int .i64 k ∧ l = .slice a fs.length c ∧ OwnF wr w.heap.size (.slice a fs.length c) fs ∧ Touch w wr (fun _ => False) ∧ fs.length * 16 ≤ k ∧
    scanX xs = (fs.map FrD.val ++ (scanX (xs.drop k)).1, k + (scanX (xs.drop k)).2.1, (scanX (xs.drop k)).2.2)

end Go.Proofs.YtibpnlhdpdfhiaaDoor
