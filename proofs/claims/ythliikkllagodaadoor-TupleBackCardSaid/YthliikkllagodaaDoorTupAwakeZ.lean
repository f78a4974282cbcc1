/- The known tuple: awake answers true. -/
import Derived.Test.YthliikkllagodaaDoorTupTextZ
set_option linter.unusedVariables false
namespace Go.Proofs.YthliikkllagodaaDoor
open Go.RowKit

theorem itoa_1 {n : Nat} (h : n < 10) : Lib.itoa (n : Int) = [UInt8.ofNat (48 + n)] := by rw [Lib.itoa_nonneg, Lib.decDigits_one h]
theorem itoa_2 {n : Nat} (h1 : ¬ n < 10) (h2 : n < 100) : Lib.itoa (n : Int) = [UInt8.ofNat (48 + n / 10), UInt8.ofNat (48 + n % 10)] := by rw [Lib.itoa_nonneg, Lib.decDigits_two h1 h2]
def kt : TupD := ⟨167772161, 167772162, 6, 5, 80⟩
theorem kt_text : textL kt = [116, 99, 112, 32, 49, 48, 46, 48, 46, 48, 46, 49, 58, 53, 62, 49, 48, 46, 48, 46, 48, 46, 50, 58, 56, 48] := by
  have h10 : Lib.itoa 10 = [49, 48] := itoa_2 (n := 10) (by decide) (by decide)
  have h80 : Lib.itoa 80 = [56, 48] := itoa_2 (n := 80) (by decide) (by decide)
  have h0 : Lib.itoa 0 = [48] := itoa_1 (n := 0) (by decide)
  have h1 : Lib.itoa 1 = [49] := itoa_1 (n := 1) (by decide)
  have h2 : Lib.itoa 2 = [50] := itoa_1 (n := 2) (by decide)
  have h5 : Lib.itoa 5 = [53] := itoa_1 (n := 5) (by decide)
  simp [textL, kt, nameL, endL, addrL, partsL, h10, h80, h0, h1, h2, h5, Lib.join_cons, Lib.joinTail]
set_option maxRecDepth 20000 in
set_option maxHeartbeats 2000000 in
theorem awake7 (w : World) (hT : TabW w) :
    Calls Tryd.prog 34 #[] w fun e w' => e = .returned (.bool true) ∧ Touch w w' (fun _ => False) := by
  have hq := text_any kt (by refine ⟨?_, ?_, ?_, ?_, ?_⟩ <;> simp only [kt, i64, u32] <;> omega) w hT
  rw [kt_text] at hq
  simp only [kt, tcs, mkS] at hq
  have HQ := Lib.hid hq
  clear hq
  go_enter Tryd.func34, Tryd.ntmps34
  go_wp2_with (go_at_call 33; (with_reducible refine HQ.out.mono ?_); rintro e w2 ⟨rfl, t2⟩)
  go_ret
  exact ⟨rfl, t2⟩
end Go.Proofs.YthliikkllagodaaDoor
