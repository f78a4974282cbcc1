/- Records: may one be? What May of package record answers. -/
import Derived.Test.YtgmimdnebgncoaaGCZ
import Derived.Test.YtgmimdnebgncoaaRecRPlainZ
set_option linter.unusedVariables false
set_option linter.unusedSimpArgs false
namespace Go.Proofs.Ytgmimdnebgncoaa
open Go.RowKit

/-- May it be a record? -/
def mayRB (r : RecD) : Bool :=
  if r.kind = 1 then mayTB r.t && idB r.fb && cntB r.fg && timB r.fs
  else if r.kind = 2 then mayTB r.t
  else if r.kind = 3 then cntB r.gen && decide (r.bs.length ≤ 16) && r.bs.all mayKB
  else if r.kind = 4 then idB r.be && timB r.un
  else if r.kind = 5 then idB r.be
  else if r.kind = 6 then cntB r.ct
  else false
theorem heap_two (w : World) (A B : Obj) : ((w.alloc A).alloc B).heap[w.heap.size + 1]? = some B := by
  show ((w.heap.push A).push B)[w.heap.size + 1]? = some B
  rw [Array.getElem?_push, if_pos (by simp)]
theorem still2 (w : World) (A B : Obj) : Touch w ((w.alloc A).alloc B) (fun _ => False) := ((Touch.refl w (fun _ => False)).alloc A).alloc B

end Go.Proofs.Ytgmimdnebgncoaa
