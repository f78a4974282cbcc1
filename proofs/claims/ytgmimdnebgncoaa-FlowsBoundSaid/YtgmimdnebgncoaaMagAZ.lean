/- The known table: awake answers true. Two rows of numbers are held against one another. -/
import Derived.Test.YtgmimdnebgncoaaMagSZ
set_option linter.unusedVariables false
namespace Go.Proofs.Ytgmimdnebgncoaa
open Go.RowKit Go.Maps

def bsA : List BkD := [⟨1, 0, 1⟩, ⟨2, 0, 1⟩]
theorem tabA1 : (tabF bsA 7).count 1 = 4 := by decide +kernel
theorem tabA2 : (tabF bsA 7).count 2 = 3 := by decide +kernel
theorem may251 : mayS 251 = true := by decide +kernel
theorem may9 : mayS 9 = false := by decide +kernel
/-- A table's slots are small numbers. -/
theorem tab_small {bs : List BkD} {n : Nat} (hp : Prm n) : ∀ x ∈ tabF bs n, -1 ≤ x ∧ x ≤ 65535 := by
  intro x hx
  unfold tabF at hx
  split at hx
  · simp at hx; omega
  · rename_i hc
    have hg : gmay bs = true := by
      cases h : gmay bs with
      | true => rfl
      | false => exact absurd (.inr h) hc
    have hR := rows_fine hp hg
    have hI := inv_all hR (by rw [rowsF_length]; omega) n (Nat.le_refl _)
    rcases hI.mem x hx with h | ⟨r, hr, h⟩
    · omega
    · have := hR.each r hr; omega
theorem tab_len {bs : List BkD} {n : Nat} (hp : Prm n) : (tabF bs n).length = n := by
  unfold tabF
  split
  · simp
  · rename_i hc
    have hg : gmay bs = true := by
      cases h : gmay bs with
      | true => rfl
      | false => exact absurd (.inr h) hc
    exact (inv_all (rows_fine hp hg) (by rw [rowsF_length]; omega) n (Nat.le_refl _)).tl
theorem tab_i64 {bs : List BkD} {n : Nat} (hp : Prm n) : ∀ x ∈ tabF bs n, -9223372036854775808 ≤ x ∧ x ≤ 9223372036854775807 := fun x hx => by have := tab_small hp x hx; omega

end Go.Proofs.Ytgmimdnebgncoaa
