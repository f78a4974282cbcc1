/- Backends that drain: awake; a set that there isn't. -/
import Derived.Test.YtdhimlkndpiacaaGreatDrDueZ
set_option linter.unusedVariables false
set_option linter.unusedSimpArgs false
namespace Go.Proofs.YtdhimlkndpiacaaGreat
open Go.RowKit

theorem sort_le {x : DR} {M : List DR} (hs : SortQ ((x :: M).map qd)) : ∀ y ∈ M, x.u ≤ y.u := by
  intro y hy
  rw [List.map_cons] at hs
  have := (List.pairwise_cons.1 hs).1 (qd y) (List.mem_map.2 ⟨y, hy, rfl⟩)
  rcases (ltQ_iff _ _).1 this with h | ⟨h, _⟩
  · exact Int.le_of_lt h
  · exact Int.le_of_eq h
theorem due_filter : ∀ {M : List DR} (hs : SortQ (M.map qd)) (now : Int), dueD M now = M.filter (fun d => decide (d.u ≤ now)) ∧ restD M now = M.filter (fun d => !decide (d.u ≤ now))
  | [], _, _ => ⟨rfl, rfl⟩
  | x :: M, hs, now => by
    have hle := sort_le hs
    have hs2 : SortQ (M.map qd) := by rw [List.map_cons] at hs; exact (List.pairwise_cons.1 hs).2
    obtain ⟨i1, i2⟩ := due_filter hs2 now
    unfold dueD restD at *
    rw [List.takeWhile_cons, List.dropWhile_cons, List.filter_cons, List.filter_cons]
    by_cases h : x.u ≤ now
    · simp only [h, decide_true, if_true, Bool.not_true, Bool.false_eq_true, if_false]
      exact ⟨by rw [i1], i2⟩
    · simp only [h, decide_false, Bool.false_eq_true, if_false, Bool.not_false, if_true]
      refine ⟨(List.filter_eq_nil_iff.2 fun y hy => ?_).symm, ?_⟩
      · have := hle y hy; simp; omega
      · congr 1
        refine (List.filter_eq_self.2 fun y hy => ?_).symm
        have := hle y hy; simp; omega
section
variable {w w1 w2 : World} {s : Nat} {h : DH} {M M' A R : List DR} {v : Value}
end
theorem icell_one {w : World} {g o n c : Nat} {A : List DR} (r : RowS w (some ⟨g, o, none⟩) n c 1 (icells A)) (i : Nat) (hi : i < A.length) : w.cell? ⟨g, o + i, none⟩ = some (.int .i64 (gd A i).b) := by
  have := r.cell i (by simpa [icells] using hi) 0 (.int .i64 (gd A i).b) (by simp [icells, gd_get A i hi])
  simpa using this
end Go.Proofs.YtdhimlkndpiacaaGreat
