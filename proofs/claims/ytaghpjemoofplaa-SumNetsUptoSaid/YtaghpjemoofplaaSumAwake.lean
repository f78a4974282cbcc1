/- The known sums: awake answers true. -/
import Derived.Test.YtaghpjemoofplaaSumWalk3
import Derived.Lib.SlBytesConst
set_option linter.unusedVariables false
namespace Go.Proofs.Ytaghpjemoofplaa
open Go.RowKit

theorem crc_known : crcF [49, 50, 51, 52, 53, 54, 55, 56, 57] = 3808858755 := by decide +kernel
theorem net_known : netF [0, 1] = 65534 := by decide +kernel

set_option maxHeartbeats 400000 in
theorem awake_any (w : World) :
    Calls Try.prog 22 #[] w fun e w' => e = .returned (.bool true) ∧ Below w.heap.size w w' := by
  have kc := fun (w : World) (C : Array Value) (n c : Nat) => Lib.run_convert_bytes_const (P := Try.prog) w 22 5 C n c Try.underlying22 Try.underlying5
  have hk := Lib.hid crc_known
  have hk2 := Lib.hid net_known
  go_enter Try.func22, Try.ntmps22
  go_wp2_with fail
  refine (crc_any _ _ _ [49, 50, 51, 52, 53, 54, 55, 56, 57] _ (RowB.new w _ rfl _ _ _ 9 _ rfl (by omega) (by decide) (by
    intro i hi
    match i, hi with
    | 0, _ | 1, _ | 2, _ | 3, _ | 4, _ | 5, _ | 6, _ | 7, _ | 8, _ => rfl))).mono ?_
  rintro e w' ⟨rfl, n, rfl⟩
  rw [hk.out]
  go_wp2_with fail
  refine (net_any _ _ _ [0, 1] _ (RowB.new _ _ (by simp) _ _ _ 2 _ rfl (by omega) (by decide) (by
    intro i hi
    match i, hi with
    | 0, _ | 1, _ => rfl))).mono ?_
  rintro e w' ⟨rfl, m, rfl⟩
  rw [hk2.out]
  go_wp2_with fail
  go_ret
  refine ⟨rfl, ?_⟩
  refine below_drewN' ?_ _
  exact Below.alloc (below_drewN' (Below.alloc (Below.refl _ _) (Nat.le_refl _) _) _) (by simp) _
end Go.Proofs.Ytaghpjemoofplaa
