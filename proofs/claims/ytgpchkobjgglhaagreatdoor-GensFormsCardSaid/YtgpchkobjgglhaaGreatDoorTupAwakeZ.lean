/- The known tuple: awake answers true. -/
import Derived.Test.YtgpchkobjgglhaaGreatDoorTupTextZ
set_option linter.unusedVariables false
namespace Go.Proofs.YtgpchkobjgglhaaGreatDoor
open Go.RowKit

theorem itoa_1 {n : Nat} (h : n < 10) : Lib.itoa (n : Int) = [UInt8.ofNat (48 + n)] := by rw [Lib.itoa_nonneg, Lib.decDigits_one h]
theorem itoa_2 {n : Nat} (h1 : ¬ n < 10) (h2 : n < 100) : Lib.itoa (n : Int) = [UInt8.ofNat (48 + n / 10), UInt8.ofNat (48 + n % 10)] := by rw [Lib.itoa_nonneg, Lib.decDigits_two h1 h2]
def kt : TupD := ⟨167772161, 167772162, 6, 5, 80⟩
theorem kt_text : textL kt = [116, 99, 112, 32, 49, 48, 46, 48, 46, 48, 46, 49, 58, 53, 62, 49, 48, 46, 48, 46, 48, 46, 50, 58, 56, 48] := by
  have h10 : Lib.itoa 10 = [49, 48] := itoa_2 (n := 10) (by decide) (by decide)
  have h80 : Lib.itoa 80 = [56, 48] := itoa_2 (n := 80) (by decide) (by decide)
  have h0 : Lib.itoa 0 = [48] := itoa_1 (n := 0) (by decide)
  have h1 : Lib.itoa 1 = [49] := itoa_1 (n := 1) (by decide)
  have h2 : Lib.itoa 2 = [50] := itoa_1 (n := 2) (by decide)
  have h5 : Lib.itoa 5 = [53] := itoa_1 (n := 5) (by decide)
  simp [textL, kt, nameL, endL, addrL, partsL, h10, h80, h0, h1, h2, h5, Lib.join_cons, Lib.joinTail]
end Go.Proofs.YtgpchkobjgglhaaGreatDoor
