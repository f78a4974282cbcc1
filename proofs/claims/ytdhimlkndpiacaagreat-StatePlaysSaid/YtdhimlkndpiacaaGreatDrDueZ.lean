/- Backends that drain: Due. -/
import Derived.Test.YtdhimlkndpiacaaGreatDrBZ
import Derived.Test.YtdhimlkndpiacaaGreatHAZ
set_option linter.unusedVariables false
set_option linter.unusedSimpArgs false
namespace Go.Proofs.YtdhimlkndpiacaaGreat
open Go.RowKit

def dueD (M : List DR) (now : Int) : List DR := M.takeWhile (fun d => decide (d.u ≤ now))
def restD (M : List DR) (now : Int) : List DR := M.dropWhile (fun d => decide (d.u ≤ now))
theorem due_qd (M : List DR) (now : Int) : dueQ (M.map qd) now = (dueD M now).map qd ∧ restQ (M.map qd) now = (restD M now).map qd := by
  unfold dueQ restQ dueD restD
  rw [List.takeWhile_map, List.dropWhile_map]
  exact ⟨rfl, rfl⟩
theorem due_rest (M : List DR) (now : Int) : dueD M now ++ restD M now = M := List.takeWhile_append_dropWhile
def icells (A : List DR) : List (List Value) := A.map (fun d => [.int .i64 d.b])
theorem infoIntD : (Tryz.prog.info? 3).map (fun i => (i.zero, i.size, i.bytes)) = some (some (.int .i64 0), 1, 8) := by kernel_rfl
def gd (M : List DR) (i : Nat) : DR := M.getD i ⟨0, 0⟩
theorem gd_get (M : List DR) (i : Nat) (h : i < M.length) : gd M i = M[i] := by unfold gd; rw [List.getD_eq_getElem?_getD, List.getElem?_eq_getElem h]; rfl
theorem gd_mem (M : List DR) (i : Nat) (h : i < M.length) : gd M i ∈ M := by rw [gd_get M i h]; exact List.getElem_mem h
theorem gq_qd (A : List DR) (i : Nat) (h : i < A.length) : gq (A.map qd) i = qd (gd A i) := by
  rw [gq_get _ i (by simpa using h), List.getElem_map, gd_get A i h]
theorem own_some {a : Option Addr} {n c k : Nat} (h : (Value.slice a n c).ownBlock = some k) : ∃ y, a = some y ∧ y.block = k := by
  cases a with
  | none => simp [Value.ownBlock] at h
  | some y => exact ⟨y, rfl, by simpa [Value.ownBlock] using h⟩
end Go.Proofs.YtdhimlkndpiacaaGreat
