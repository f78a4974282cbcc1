/- Frames: four bytes as a number, as the reference reads them. -/
import Derived.Test.YtibpnlhdpdfhiaaDoorFrmHeadZ
import Derived.BigQuiet
set_option linter.unusedVariables false
namespace Go.Proofs.YtibpnlhdpdfhiaaDoor
open Go.RowKit

theorem or_u32 (x y : Int) (i : Nat) (h0 : 0 ≤ x) (hx : x % 2 ^ i = 0) (h1 : x < 4294967296) (hy : 0 ≤ y) (hy1 : y < 2 ^ i) (hy2 : y < 4294967296) : bits BinOp.or IntKind.u32 x y = x + y :=
  bits_join .u32 32 (by decide) (fun n h0 h1 => by simp [IntKind.wrap, IntKind.bits, IntKind.signed]; omega) i x y h0 hx (by omega) hy hy1 (by omega)

set_option maxRecDepth 20000 in
set_option maxHeartbeats 4000000 in
theorem u32_any (a : Option Addr) (len cap : Nat) (xs : List Nat) (w : World) (hr : RowB w a len cap xs) (hl : 4 ≤ len) :
    Calls Tryd.prog 80 #[.slice a len cap] w fun e w' => e = .returned (.int .u32 (b4 xs 0 : Nat)) ∧ ∃ n, w' = w.drewN n := by
  obtain ⟨b, off, rfl⟩ := hr.some (by omega)
  have hsm := hr.2.2.2.2.1
  have b0 := gb_lt xs hsm 0
  have b1 := gb_lt xs hsm 1
  have b2 := gb_lt xs hsm 2
  have b3 := gb_lt xs hsm 3
  have c0 := hr.gb 0 (by omega)
  have c1 := hr.gb 1 (by omega)
  have c2 := hr.gb 2 (by omega)
  have c3 := hr.gb 3 (by omega)
  simp only [Nat.add_zero] at c0
  have hb : b4 xs 0 = ((gb xs 0 * 256 + gb xs 1) * 256 + gb xs 2) * 256 + gb xs 3 := by simp [b4, beN]
  have HB := Lib.hid hb
  clear hr hsm hb
  generalize gb xs 0 = x0 at *
  generalize gb xs 1 = x1 at *
  generalize gb xs 2 = x2 at *
  generalize gb xs 3 = x3 at *
  have o1 : bits BinOp.or IntKind.u32 ((x0 : Int) * 16777216) ((x1 : Int) * 65536) = (x0 : Int) * 16777216 + (x1 : Int) * 65536 := or_u32 _ _ 24 (by omega) (by omega) (by omega) (by omega) (by omega) (by omega)
  have o2 : bits BinOp.or IntKind.u32 ((x0 : Int) * 16777216 + (x1 : Int) * 65536) ((x2 : Int) * 256) = (x0 : Int) * 16777216 + (x1 : Int) * 65536 + (x2 : Int) * 256 := or_u32 _ _ 16 (by omega) (by omega) (by omega) (by omega) (by omega) (by omega)
  have o3 : bits BinOp.or IntKind.u32 ((x0 : Int) * 16777216 + (x1 : Int) * 65536 + (x2 : Int) * 256) (x3 : Int) = (x0 : Int) * 16777216 + (x1 : Int) * 65536 + (x2 : Int) * 256 + x3 := or_u32 _ _ 8 (by omega) (by omega) (by omega) (by omega) (by omega) (by omega)
  have l0 : 0 < len := by omega
  have l1 : (1 : Int) < len := by omega
  have l2 : (2 : Int) < len := by omega
  have l3 : (3 : Int) < len := by omega
  go_enter Tryd.func80, Tryd.ntmps80
  go_wp2_with fail
  go_quiet (fail)
  all_goals (
    go_wp2
    go_ret
    exact ⟨congrArg (fun z => Ending.returned (.int .u32 z)) (by rw [HB.out]; omega), nq, rfl⟩)
theorem gb_drop (xs : List Nat) (j i : Nat) : gb (xs.drop j) i = gb xs (j + i) := by
  unfold gb; rw [List.getD_eq_getElem?_getD, List.getD_eq_getElem?_getD, List.getElem?_drop]
theorem b4_drop (xs : List Nat) (j : Nat) : b4 (xs.drop j) 0 = b4 xs j := by
  unfold b4; simp only [gb_drop, Nat.zero_add, Nat.add_zero]
end Go.Proofs.YtibpnlhdpdfhiaaDoor
