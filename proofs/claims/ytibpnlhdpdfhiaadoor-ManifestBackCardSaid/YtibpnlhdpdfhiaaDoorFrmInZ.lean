/- Frames that came in; what the law's Bytes makes of them. -/
import Derived.Test.YtibpnlhdpdfhiaaDoorFrmScansZ
import Derived.Test.YtibpnlhdpdfhiaaDoorFrmAwakeZ
import Derived.Test.YtibpnlhdpdfhiaaDoorGrowBZ
set_option linter.unusedVariables false
namespace Go.Proofs.YtibpnlhdpdfhiaaDoor
open Go.ChangeShapes Go.WideShapes Go.ChangeAt Go.RowKit

theorem list_of {α β : Type} (R : Nat → α → β → Prop) : ∀ (l : List α) (s : Nat), (∀ i a, l[i]? = some a → ∃ b, R (s + i) a b) → ∃ m : List β, m.length = l.length ∧ ∀ i a b, l[i]? = some a → m[i]? = some b → R (s + i) a b
  | [], s, _ => ⟨[], rfl, fun i a b h => by simp at h⟩
  | x :: l, s, h => by
    obtain ⟨b0, hb0⟩ := h 0 x rfl
    obtain ⟨m, hm, hr⟩ := list_of R l (s + 1) (fun i a hi => by
      have := h (i + 1) a (by simpa using hi)
      rwa [show s + 1 + i = s + (i + 1) from by omega])
    refine ⟨b0 :: m, by simp [hm], fun i a b ha hb => ?_⟩
    cases i with
    | zero => simp at ha hb; subst ha; subst hb; exact hb0
    | succ i =>
      have := hr i a b (by simpa using ha) (by simpa using hb)
      rwa [show s + 1 + i = s + (i + 1) from by omega] at this

/-- The bytes of the frames that the law takes: the first twelve, none too long. -/
def oneB (f : FrD) : List Nat := if f.ys.length ≤ 300 then putF f.k f.v f.ys else []
def manyB (fs : List FrD) : List Nat := (fs.take 12).flatMap oneB
theorem putF_length (k v : Int) (ys : List Nat) : (putF k v ys).length ≤ 16 + ys.length := by
  unfold putF
  by_cases h : putE k v ys.length = 0
  · rw [if_pos h, frmF_length]; exact Nat.le_refl _
  · rw [if_neg h]; simp
theorem oneB_length (f : FrD) : (oneB f).length ≤ 316 := by
  unfold oneB
  by_cases h : f.ys.length ≤ 300
  · rw [if_pos h]; have := putF_length f.k f.v f.ys; omega
  · rw [if_neg h]; simp
theorem flat_length : ∀ (fs : List FrD), (fs.flatMap oneB).length ≤ fs.length * 316
  | [] => by simp
  | f :: r => by have := flat_length r; have := oneB_length f; simp only [List.flatMap_cons, List.length_append, List.length_cons]; omega
theorem manyB_length (fs : List FrD) : (manyB fs).length ≤ 3792 := by
  have := flat_length (fs.take 12)
  have h2 : (fs.take 12).length ≤ 12 := by simp; omega
  unfold manyB; omega
theorem manyB_step (fs : List FrD) (k : Nat) (h : k < fs.length) : manyB (fs.take (k + 1)) = if k < 12 then manyB (fs.take k) ++ oneB fs[k] else manyB (fs.take k) := by
  unfold manyB
  rw [List.take_take, List.take_take]
  by_cases hk : k < 12
  · rw [if_pos hk, show min 12 (k + 1) = k + 1 from by omega, show min 12 k = k from by omega, List.take_succ_eq_append_getElem h, List.flatMap_append, List.flatMap_singleton]
  · rw [if_neg hk, show min 12 (k + 1) = 12 from by omega, show min 12 k = 12 from by omega]
end Go.Proofs.YtibpnlhdpdfhiaaDoor
