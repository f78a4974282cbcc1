/- The queue's Next. -/
import Derived.Test.YtdjkjdeaglimeaaDueOps
import Derived.BigQuiet
set_option linter.unusedVariables false
set_option linter.unusedSimpArgs false
namespace Go.Proofs.Ytdjkjdeaglimeaa
open Go.RowKit

def headQ : List QR → QR
  | [] => q0
  | x :: _ => x
set_option maxRecDepth 20000 in
set_option maxHeartbeats 4000000 in
theorem qnext_any (w : World) (b : Nat) (h : QH) (L : List QR) (q : QL w b h L) :
    Calls Try.prog 20 #[.pointer (some ⟨b, 0, none⟩)] w fun e w' => e = .returned (.tuple #[.string (headQ L).key, .int .i64 (headQ L).time, .bool (!L.isEmpty)]) ∧ Touch w w' (fun _ => False) := by
  have HL := Lib.hid (qlen_any w b h L q)
  cases L with
  | nil =>
    clear q
    go_enter Try.func20, Try.ntmps20
    go_wp2_with fail
    refine HL.out.mono ?_
    rintro e w' ⟨rfl, rfl⟩
    go_wp2_with fail
    go_ret3
    exact ⟨rfl, Touch.refl _ _⟩
  | cons x L =>
    obtain ⟨hs, l, q, hp⟩ := q
    have hx := first_of hp hs q.2
    have hll : l.length = L.length + 1 := by rw [hp.length_eq]; simp
    obtain ⟨g, ha, hg0, hg1⟩ := q.1.at' (by omega)
    obtain ⟨d0, d1⟩ := q.1.cell2 ha 0 (by omega)
    rw [hx] at d0 d1
    have d0 : w.cell? ⟨g, 0, none⟩ = some (.string x.key) := d0
    have d1 : w.cell? ⟨g, 1, none⟩ = some (.int .i64 x.time) := d1
    obtain ⟨c0, c1⟩ := q.1.cells
    rw [ha, hll] at c0
    have hl4 := q.1.len
    have hlI : ¬ ((L.length + 1 : Nat) : Int) = 0 := by omega
    rw [List.length_cons] at HL
    obtain ⟨W2, hW2⟩ : ∃ W, w.alloc (.cells #[.string x.key, .int .i64 x.time] 88) = W := ⟨_, rfl⟩
    have t1 : Touch w W2 (fun _ => False) := hW2 ▸ (Touch.refl w _).alloc _
    have g2 : W2.heap[w.heap.size]? = some (.cells #[.string x.key, .int .i64 x.time] 88 (0, 0)) := hW2 ▸ heap_alloc_new ..
    have x0 := cell_of_cells g2 0
    have x1 := cell_of_cells g2 1
    have HT := Lib.hid t1
    have HW2 := Lib.hid hW2
    have hcap := q.1.row.hcap
    have hmax := q.1.row.hmax
    have hlp : (0 : Int) < ((L.length + 1 : Nat) : Int) := by omega
    clear q hp hs t1 g2 hW2 hx
    generalize (L.length + 1 : Nat) = n at *
    go_enter Try.func20, Try.ntmps20
    go_wp2_with fail
    refine HL.out.mono ?_
    rintro e w' ⟨rfl, rfl⟩
    go_upto_region 4 with (fail)
    rw [HW2.out]
    go_quiet (fail)
    all_goals (go_wp2_with fail)
    all_goals (go_ret3)
    all_goals (exact ⟨rfl, HT.out.drewN _⟩)
end Go.Proofs.Ytdjkjdeaglimeaa
