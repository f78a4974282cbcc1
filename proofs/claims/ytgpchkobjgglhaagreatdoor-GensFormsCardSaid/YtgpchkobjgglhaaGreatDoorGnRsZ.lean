/- Sets of backends: the reference's Sort, one by one; it makes what Sort makes; pure. -/
import Derived.Test.YtgpchkobjgglhaaGreatDoorGnMZ
set_option linter.unusedVariables false
namespace Go.Proofs.YtgpchkobjgglhaaGreatDoor
open Go.RowKit

theorem metF_congr : ∀ (bs : List BkD) (s s' : List Int), (∀ i, i ∈ s ↔ i ∈ s') → metF s bs = metF s' bs
  | [], _, _, _ => rfl
  | b :: r, s, s', h => by
    unfold metF
    by_cases hb : b.id ∈ s
    · rw [if_pos hb, if_pos ((h _).1 hb)]; exact metF_congr r s s' h
    · rw [if_neg hb, if_neg (fun h2 => hb ((h _).2 h2))]
      rw [metF_congr r (b.id :: s) (b.id :: s') (fun i => by simp only [List.mem_cons, h i])]
theorem metF_add : ∀ (bs : List BkD) (s : List Int) (x : Int), metF (x :: s) bs = (metF s bs).filter (fun b => decide (b.id ≠ x))
  | [], _, _ => rfl
  | b :: r, s, x => by
    by_cases hs : b.id ∈ s
    · rw [metF, if_pos (List.mem_cons_of_mem _ hs), metF, if_pos hs]; exact metF_add r s x
    · by_cases hx : b.id = x
      · subst hx
        rw [metF, if_pos (List.mem_cons_self ..), metF, if_neg hs, List.filter_cons_of_neg (by simp), metF_add r s b.id, List.filter_filter]
        simp
      · rw [metF, if_neg (fun h => (List.mem_cons.1 h).elim hx hs), metF, if_neg hs, List.filter_cons_of_pos (by simpa using hx)]
        rw [metF_congr r (b.id :: x :: s) (x :: b.id :: s) (fun i => by simp only [List.mem_cons]; exact or_left_comm), metF_add r (b.id :: s) x]
/-- A backend is laid in its place, over the one of its number. -/
def layK (b : BkD) : List BkD → List BkD
  | [] => [b]
  | x :: r => if x.id < b.id then x :: layK b r else if x.id = b.id then b :: r else b :: x :: r
theorem filter_up {b : BkD} : ∀ {L : List BkD}, (∀ x ∈ L, b.id < x.id) → L.filter (fun x => decide (x.id ≠ b.id)) = L := by
  intro L h
  exact List.filter_eq_self.2 (fun x hx => decide_eq_true (by have := h x hx; omega))
theorem layK_ok (b : BkD) : ∀ L : List BkD, UpK L → (layK b L).Perm (b :: L.filter (fun x => decide (x.id ≠ b.id))) ∧ UpK (layK b L)
  | [], _ => ⟨.refl _, List.pairwise_singleton ..⟩
  | x :: r, h => by
    obtain ⟨h1, h2⟩ := List.pairwise_cons.1 h
    obtain ⟨i1, i2⟩ := layK_ok b r h2
    unfold layK
    by_cases hlt : x.id < b.id
    · rw [if_pos hlt, List.filter_cons_of_pos (by simp; omega)]
      refine ⟨(i1.cons x).trans (.swap b x _), List.pairwise_cons.2 ⟨fun y hy => ?_, i2⟩⟩
      rcases List.mem_cons.1 (i1.mem_iff.1 hy) with rfl | hy
      · exact hlt
      · exact h1 y ((List.mem_filter.1 hy).1)
    · rw [if_neg hlt]
      by_cases he : x.id = b.id
      · rw [if_pos he, List.filter_cons_of_neg (by simp [he]), filter_up (fun y hy => by have := h1 y hy; omega)]
        exact ⟨.refl _, List.pairwise_cons.2 ⟨fun y hy => by have := h1 y hy; omega, h2⟩⟩
      · have hbx : b.id < x.id := by omega
        rw [if_neg he, filter_up (L := x :: r) (fun y hy => by
          rcases List.mem_cons.1 hy with rfl | hy
          · exact hbx
          · have := h1 y hy; omega)]
        exact ⟨.refl _, List.pairwise_cons.2 ⟨fun y hy => by
          rcases List.mem_cons.1 hy with rfl | hy
          · exact hbx
          · have := h1 y hy; omega, h⟩⟩
def rfoldK (l : List BkD) : List BkD := l.foldl (fun L b => layK b L) []
theorem rfoldK_snoc (l : List BkD) (b : BkD) : rfoldK (l ++ [b]) = layK b (rfoldK l) := by unfold rfoldK; rw [List.foldl_append]; rfl
theorem rfoldK_ok (R : List BkD) : (rfoldK R.reverse).Perm (metF [] R) ∧ UpK (rfoldK R.reverse) := by
  induction R with
  | nil => exact ⟨.refl _, .nil⟩
  | cons b R ih =>
    rw [List.reverse_cons, rfoldK_snoc]
    obtain ⟨h1, h2⟩ := layK_ok b _ ih.2
    refine ⟨h1.trans ?_, h2⟩
    rw [metF, if_neg (by simp), metF_add R [] b.id]
    exact (ih.1.filter _).cons b
/-- THE REFERENCE SORTS AS THE PROGRAM DOES. -/
theorem rsort_is (bs : List BkD) : rfoldK (bs.take 16) = gsortF bs := by
  obtain ⟨h1, h2⟩ := rfoldK_ok (bs.take 16).reverse
  rw [List.reverse_reverse] at h1 h2
  exact gsort_is h1 h2
theorem layK_at : ∀ (L : List BkD) (b : BkD) (i : Nat), i ≤ L.length → (∀ x ∈ L.take i, x.id < b.id) → (∀ x, (L.drop i).head? = some x → ¬ x.id < b.id) → layK b L = L.take i ++ b :: (match L.drop i with | [] => [] | x :: r => if x.id = b.id then r else x :: r)
  | [], b, i, hi, _, _ => by
    obtain rfl : i = 0 := by simpa using hi
    rfl
  | x :: r, b, 0, _, _, h => by
    have := h x rfl
    unfold layK
    rw [if_neg this]
    by_cases he : x.id = b.id
    · rw [if_pos he]; simp [he]
    · rw [if_neg he]; simp [he]
  | x :: r, b, i + 1, hi, h1, h2 => by
    have hx := h1 x (by simp)
    unfold layK
    rw [if_pos hx, layK_at r b i (by simpa using hi) (fun y hy => h1 y (by simp [hy])) (fun y hy => h2 y (by simpa using hy))]
    simp
end Go.Proofs.YtgpchkobjgglhaaGreatDoor
