/- What an octet.Writer's numbers leave: their bytes, the highest first. -/
import Derived.Test.YtmokcfmlolohaaaOctW
set_option linter.unusedVariables false
namespace Go.Proofs.Ytmokcfmlolohaaa
open Go.RowKit

/-- The lowest bytes of x, so many, the highest of these first. -/
def beB (width x : Nat) : List Nat := (List.range width).map fun i => x / 2 ^ (8 * (width - 1 - i)) % 256
theorem beB_length (width x : Nat) : (beB width x).length = width := by simp [beB]
theorem beB_small (width x : Nat) : ∀ y ∈ beB width x, y < 256 := by
  intro y hy
  simp only [beB, List.mem_map] at hy
  obtain ⟨i, _, rfl⟩ := hy
  omega
theorem beB_step (width x k : Nat) (h : k < width) : (beB width x).take (k + 1) = (beB width x).take k ++ [x / 2 ^ (8 * (width - 1 - k)) % 256] := by
  rw [List.take_succ_eq_append_getElem (by rw [beB_length]; exact h)]
  congr 1
  simp [beB]

end Go.Proofs.Ytmokcfmlolohaaa
