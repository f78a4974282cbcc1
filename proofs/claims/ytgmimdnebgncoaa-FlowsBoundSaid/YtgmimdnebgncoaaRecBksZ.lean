/- Records: what a writer's walk over a set of backends puts. -/
import Derived.Test.YtgmimdnebgncoaaRecFlowZ
set_option linter.unusedVariables false
set_option linter.unusedSimpArgs false
namespace Go.Proofs.Ytgmimdnebgncoaa
open Go.RowKit

def bkF (v : Int) (b : BkD) : List Nat := beB 2 (u64N b.id) ++ beB 4 (u64N b.addr) ++ (if v < 2 then [] else beB 1 (u64N b.weight))
def bksF (v : Int) (bs : List BkD) : List Nat := (bs.map (bkF v)).flatten
theorem bkF_le (v : Int) (b : BkD) : (bkF v b).length ≤ 7 := by unfold bkF; split <;> simp [beB_length]
theorem bksF_le (v : Int) : ∀ bs : List BkD, (bksF v bs).length ≤ 7 * bs.length
  | [] => by simp [bksF]
  | b :: r => by
    have h1 := bksF_le v r
    have h2 := bkF_le v b
    simp only [bksF, List.map_cons, List.flatten_cons, List.length_append, List.length_cons] at h1 ⊢
    omega
theorem bksF_snoc (v : Int) (bs : List BkD) (k : Nat) (h : k < bs.length) : bksF v (bs.take (k + 1)) = bksF v (bs.take k) ++ bkF v bs[k] := by
  unfold bksF; rw [List.take_succ_eq_append_getElem h]; simp only [List.map_append, List.map_cons, List.map_nil, List.flatten_append, List.flatten_cons, List.flatten_nil, List.append_nil]
end Go.Proofs.Ytgmimdnebgncoaa
