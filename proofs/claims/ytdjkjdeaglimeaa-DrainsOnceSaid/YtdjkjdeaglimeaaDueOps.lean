/- The queue's own words, the short ones. -/
import Derived.Test.YtdjkjdeaglimeaaDueQ
set_option linter.unusedVariables false
set_option linter.unusedSimpArgs false
namespace Go.Proofs.Ytdjkjdeaglimeaa
open Go.RowKit

set_option maxRecDepth 20000 in
theorem qnew_any (w : World) :
    Calls Try.prog 12 #[] w fun e w' => e = .returned (.pointer (some ⟨w.heap.size, 0, none⟩)) ∧ QL w' w.heap.size ⟨none, 0, none⟩ [] ∧ Touch w w' (fun _ => False) ∧ ∀ k, footQ w.heap.size ⟨none, 0, none⟩ k → w.heap.size ≤ k := by
  go_enter Try.func12, Try.ntmps12
  go_wp2
  go_ret
  refine ⟨rfl, ⟨List.Pairwise.nil, [], ⟨⟨?_, OwnS.nil _ _ _ _, by simp, by simp, by simp, rfl⟩, fun k h0 hk => by simp at hk⟩, .refl _⟩, (Touch.refl _ _).alloc _, ?_⟩
  · exact heap_alloc_new ..
  · rintro k (rfl | h | h)
    · exact Nat.le_refl _
    · cases h
    · cases h
set_option maxRecDepth 20000 in
theorem qlen_any (w : World) (b : Nat) (h : QH) (L : List QR) (q : QL w b h L) :
    Calls Try.prog 21 #[.pointer (some ⟨b, 0, none⟩)] w fun e w' => e = .returned (.int .i64 L.length) ∧ w = w' := by
  obtain ⟨hs, l, q, hp⟩ := q
  obtain ⟨c0, c1⟩ := q.1.cells
  rw [← hp.length_eq]
  go_enter Try.func21, Try.ntmps21
  go_wp2
  go_ret
  exact ⟨rfl, rfl⟩
theorem time_none {l : List QR} {k : ByteArray} (h : hasQ l k = false) : timeQ l k = 0 := by
  induction l with
  | nil => rfl
  | cons x l ih =>
    have h1 : ¬ k ∈ (x :: l).map QR.key := by rw [← has_iff, h]; simp
    simp only [List.map_cons, List.mem_cons, not_or] at h1
    unfold timeQ
    rw [if_neg (fun e => h1.1 e.symm)]
    exact ih (by rw [Bool.eq_false_iff]; intro h2; exact h1.2 ((has_iff l k).1 h2))
set_option maxRecDepth 20000 in
set_option maxHeartbeats 4000000 in
theorem qat_any (w : World) (b : Nat) (h : QH) (L : List QR) (q : QL w b h L) (k : ByteArray) (hk : k.size ≤ 281474976710656) :
    Calls Try.prog 22 #[.pointer (some ⟨b, 0, none⟩), .string k] w fun e w' => e = .returned (.tuple #[.int .i64 (timeQ L k), .bool (hasQ L k)]) ∧ w' = w := by
  obtain ⟨hs, l, q, hp⟩ := q
  obtain ⟨c0, c1⟩ := q.1.cells
  obtain ⟨c, hrun, hy⟩ := look_q q.1 k hk
  have hnd : (L.map QR.key).Nodup := nd_perm hp q.1.nd
  have hl4 := q.1.len
  rw [has_perm hp] at hrun hy
  cases hh : hasQ L k with
  | false =>
    rw [hh] at hrun
    rw [time_none hh]
    clear hy q hp
    go_enter Try.func22, Try.ntmps22
    go_wp2
    go_ret2
    exact ⟨rfl, rfl⟩
  | true =>
    rw [hh] at hrun
    obtain ⟨i, hi, rfl, hki⟩ := hy hh
    obtain ⟨g, ha, hg0, hg1⟩ := q.1.at' (by omega)
    obtain ⟨d0, d1⟩ := q.1.cell2 ha i hi
    rw [ha] at c0
    have ht : timeQ L k = (gq l i).time := by
      rw [← hki]; exact time_of hnd (hp.mem_iff.1 (gq_mem l i hi))
    rw [ht]
    have hiI : (i : Int) < l.length := by omega
    have hcap := q.1.row.hcap
    have hmax := q.1.row.hmax
    clear hy q hp hs
    go_enter Try.func22, Try.ntmps22
    go_wp2
    go_ret2
    exact ⟨rfl, rfl⟩
end Go.Proofs.Ytdjkjdeaglimeaa
