/- A new variable as one step of a region that draws its order. -/
import Derived.Test.YtbklngcocbnijaaSteps
import Derived.Test.YtbklngcocbnijaaRec
set_option linter.unusedVariables false
namespace Go.Proofs.Ytbklngcocbnijaa
open Go.RowKit

theorem run_allocR (w : World) : (Instr.alloc 29 true (.tuple #[])).run Try.prog w = .ok (.pointer (some ⟨w.heap.size, 0, none⟩)) (w.alloc (.cells (rcs ⟨0, noT, 0, 0, 0, 0, [], 0, 0, 0⟩ none 0) 29)) := by kernel_rfl
set_option maxRecDepth 20000 in
theorem step_allocR {ops : Array Oper} {o : Oper} {a : Act} {w : World} {K : Act → World → Prop} {Q : Exit → Act → World → Prop} {X : Prop} (hgd : o.guard = none) (ho : o.op = .alloc 29)
    (h : ∀ w' g, w'.heap[g]? = some (.cells (rcs ⟨0, noT, 0, 0, 0, 0, [], 0, 0, 0⟩ none 0) 29 (0, 0)) → w.heap.size ≤ g → Touch w w' (fun _ => False) → K (a.put o.dst (.pointer (some ⟨g, 0, none⟩))) w') :
    if Region.wanted o (yielded ops a.tmps) = true then Oper.wp Try.prog o a w K Q else X := by
  have hw : Region.wanted o (yielded ops a.tmps) = true := by simp [Region.wanted, hgd]
  rw [if_pos hw]
  unfold Oper.wp execOp
  simp only [ho, Sem.run_bind, Sem.run_pure, Result.andThen_ok, run_allocR]
  exact h _ _ (heap_alloc_new w _) (Nat.le_refl _) ((Touch.refl _ _).alloc _)
end Go.Proofs.Ytbklngcocbnijaa
