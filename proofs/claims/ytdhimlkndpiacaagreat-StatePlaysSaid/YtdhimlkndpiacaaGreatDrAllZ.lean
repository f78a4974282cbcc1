/- Backends that drain: All, by number. -/
import Derived.Test.YtdhimlkndpiacaaGreatDrAwakeZ
import Derived.Test.YtdhimlkndpiacaaGreatIter
import Derived.CallsIn
set_option linter.unusedVariables false
set_option linter.unusedSimpArgs false
namespace Go.Proofs.YtdhimlkndpiacaaGreat
open Go.RowKit Go.Maps Go.Sort Go.Shelf

theorem sortsD (m : Nat) : AnyZI.SortsIn Tryz.prog Tryz.sortedA_ren Fence.wide m :=
  ⟨fun blk off cap ss W hH hblk hsz => callsIn_wide.2 (AnyM.slices_Sort_int Tryz.sortA blk off cap ss W hH hblk hsz),
   fun p cap W => callsIn_wide.2 (AnyM.slices_Sort_int_none Tryz.sortA p cap W)⟩
theorem keysD_any (w : World) (mb : Nat) :
    Calls Tryz.prog 40 #[.map (some mb)] w fun e w' => e = .returned (.func (.func 68) #[] #[.pointer (some ⟨w.heap.size, 0, none⟩)]) ∧ w' = w.alloc (.cells #[.map (some mb)] 60) :=
  (callsIn_wide (n := 6)).1 (AnyZI.keys_in Tryz.keysA Fence.wide 6 trivial rfl (some mb) w)
theorem sortedD_any (w : World) (mb n : Nat) (D : DataW Unit) (hown : w.ownsMap Tryz.prog 3 (plainElem Tryz.prog 2) mb n D) (hmax : Maps.size D ≤ 1000000) :
    Calls Tryz.prog 39 #[.func (.func 68) #[] #[.pointer (some ⟨w.heap.size, 0, none⟩)]] (w.alloc (.cells #[.map (some mb)] 60)) fun e w' => ∃ (v : Value) (ss : List Int), e = .returned v ∧ ss.Perm (intKeys D) ∧
      w'.ownsRow (w.heap.size + 1) 3 1 v ss.length ((ss.mergeSort (fun x y => decide (x ≤ y))).map encZ) ∧ Below (w.heap.size + 1) (w.alloc (.cells #[.map (some mb)] 60)) w' := by
  refine (callsIn_wide (n := 5)).1 ?_
  have hbl := hown.lt
  have hseq : SeqGives Fence.wide 2 Tryz.prog 68 #[.pointer (some ⟨w.heap.size, 0, none⟩)] encZ (fun ss => ss.Perm (intKeys D)) (Maps.size D) (w.alloc (.cells #[.map (some mb)] 60)) :=
    AnyZI.keys_gives (ρ := Tryz.keysA_ren) { Tryz.keysA with } Fence.wide _ trivial rfl (by omega) w.heap.size mb n D _ (by simp) (by simp) (by
      obtain ⟨es, clock, hb, Ft, hs, hD⟩ := hown
      exact ⟨es, clock, (Below.heap_alloc _ _ mb hbl).trans hb, Ft, hs, hD⟩)
  have cS := AnyZI.sorted_in Tryz.sortedA Fence.wide 5 trivial trivial trivial trivial rfl (by omega) (sortsD _) (enters_of Tryz.func67 (by kernel_rfl) rfl) 68 #[.pointer (some ⟨w.heap.size, 0, none⟩)] trivial (enters_of Tryz.func68 (by kernel_rfl) rfl) _ _ (by simp only [maxLen]; omega) (by omega) _ hseq
  change CallsIn _ _ Tryz.prog 39 _ _ _ at cS
  refine cS.mono ?_
  rintro e w' ⟨v, ss, rfl, hS, hrow, _, hb⟩
  have e1 : (w.alloc (.cells #[.map (some mb)] 60)).heap.size = w.heap.size + 1 := by simp
  rw [e1] at hrow hb
  exact ⟨v, ss, rfl, hS, hrow, hb⟩
/-- By number. -/
def SortD (G : List DR) : Prop := G.Pairwise (fun a b => a.b < b.b)
theorem merge_is {ss : List Int} {G : List DR} (hp : ss.Perm (G.map DR.b)) (hs : SortD G) : ss.mergeSort (fun x y => decide (x ≤ y)) = G.map DR.b := by
  have h1 := mergeSort_of_perm_i hp
  refine h1.trans ?_
  refine List.mergeSort_of_pairwise ?_
  exact List.pairwise_map.2 (hs.imp fun {a b} h => decide_eq_true (Int.le_of_lt h))
def dcl (d : DR) : List Value := [.int .i64 d.b, .int .i64 d.u]
theorem infoDrain : (Tryz.prog.info? 93).map (fun i => (i.zero, i.size, i.bytes)) = some (some (.agg #[.int .i64 0, .int .i64 0]), 2, 16) := by kernel_rfl
theorem icells_of (G : List DR) : (icells G).flatten = (G.map DR.b).map encZ := by
  unfold icells
  induction G with
  | nil => rfl
  | cons d G ih =>
    simp only [List.map_cons, List.flatten_cons, List.cons_append, List.nil_append]
    rw [ih]
end Go.Proofs.YtdhimlkndpiacaaGreat
