/- Records: a row of backends is copied; Plain of package record. -/
import Derived.Test.YtcfiaflcgphgbaaRecPlain
set_option linter.unusedVariables false
set_option linter.unusedSimpArgs false
namespace Go.Proofs.Ytcfiaflcgphgbaa
open Go.RowKit

theorem bk_one (bs : List BkD) : ∀ l ∈ bs.map BkD.cells, ∀ u ∈ l, u.oneCell' = true := by
  intro l hl u hu
  obtain ⟨b, _, rfl⟩ := List.mem_map.1 hl
  simp only [BkD.cells, List.mem_cons, List.not_mem_nil, or_false] at hu
  rcases hu with rfl | rfl | rfl <;> rfl
theorem bk_three (bs : List BkD) : ∀ l ∈ bs.map BkD.cells, l.length = 3 := by
  intro l hl
  obtain ⟨b, _, rfl⟩ := List.mem_map.1 hl
  rfl
theorem setk2 {w : World} {n j : Nat} {v : Value} {o : Option Obj} (h : w.heap[n]? = o) : (w.setCell ⟨n + 1 + 1, j, none⟩ v).heap[n]? = o := by
  rw [heap_setCell_other _ _ _ _ (by simp; omega)]; exact h
end Go.Proofs.Ytcfiaflcgphgbaa
