/- Frames: are two the same? -/
import Derived.Test.YtibpnlhdpdfhiaaDoorFrmTakeZ
set_option linter.unusedVariables false
namespace Go.Proofs.YtibpnlhdpdfhiaaDoor
open Go.RowKit

def eqB (xs ys : List Nat) : Bool := decide (xs = ys)
def sameB (k v : Int) (xs : List Nat) (k2 v2 : Int) (ys : List Nat) : Bool := decide (k = k2) && (decide (v = v2) && eqB xs ys)
theorem eq_str (xs ys : List Nat) (hx : ∀ x ∈ xs, x < 256) (hy : ∀ y ∈ ys, y < 256) : ((strB xs).toList == (strB ys).toList) = eqB xs ys := by
  unfold eqB
  by_cases h : xs = ys
  · subst h; simp
  · have : ¬ (strB xs).toList = (strB ys).toList := fun e => h (strB_inj' xs ys hx hy e)
    simp [h, this]
end Go.Proofs.YtibpnlhdpdfhiaaDoor
