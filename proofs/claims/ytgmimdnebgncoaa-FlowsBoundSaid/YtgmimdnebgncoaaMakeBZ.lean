/- 'make([]byte, n)'. -/
import Derived.Test.YtgmimdnebgncoaaGAZ
import Derived.Laws.MakeOwn
import Derived.Laws.OwnMore
set_option linter.unusedVariables false
namespace Go.Proofs.Ytgmimdnebgncoaa
open Go.RowKit

/-- n noughts as cells. -/
def zB (n : Nat) : Array Value := madeCells #[Value.int .u8 0] n
/-- n noughts. -/
def zL (n : Nat) : List Nat := List.replicate n 0
theorem zL_length (n : Nat) : (zL n).length = n := by simp [zL]
theorem zL_small (n : Nat) : ∀ x ∈ zL n, x < 256 := by intro x hx; simp [zL] at hx; omega
theorem zB_list (n : Nat) : (zB n).toList = (zL n).map cellB := by
  show (madeCells #[Value.int .u8 0] n).toList = _
  rw [toList_madeCells_one]; unfold zL; rw [List.map_replicate]; rfl
theorem make_bytes (w : World) (L : Int) (n : Nat) (hL : L = n) (hn : n ≤ 281474976710656) :
    (Instr.makeSlice 71 (.int .i64 L) (.int .i64 L)).run Try.prog w = .ok (.slice (some ⟨w.heap.size, 0, none⟩) n n) (w.alloc (.cells (zB n) 5)) := by
  subst hL
  obtain ⟨i, hi, hz0, hz1, hz2⟩ := info_parts infoB
  have := run_make (P := Try.prog) w 71 5 i (.int .u8 0) Try.underlying71 hi hz0 .i64 .i64 n n (by omega) (Int.le_refl _) (by rw [hz2]; omega) (by omega)
  simp only [Int.toNat_natCast, hz1, Nat.mul_one] at this
  exact this
theorem row_zB (w : World) (n : Nat) (hn : n ≤ 281474976710656) : RowB (w.alloc (.cells (zB n) 5)) (some ⟨w.heap.size, 0, none⟩) n n (zL n) := by
  obtain ⟨a, c, hv, hr, _⟩ := (OwnB.lit w _ rfl _ (Nat.le_refl _) 5 (zB n) n (zL n) (zB_list n) (zL_length n) (zL_small n) hn).row
  rw [zL_length] at hv hr
  simp only [Value.slice.injEq, true_and] at hv
  obtain ⟨rfl, rfl⟩ := hv
  exact hr
end Go.Proofs.Ytgmimdnebgncoaa
