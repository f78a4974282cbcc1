/- Put and Take of frames, whatever comes; the known frame: awake answers true. -/
import Derived.Test.YtibpnlhdpdfhiaaDoorFrmPutZ
import Derived.Test.YtibpnlhdpdfhiaaDoorFrmRefZ
import Derived.Test.YtibpnlhdpdfhiaaDoorFrmRTakeZ
set_option linter.unusedVariables false
namespace Go.Proofs.YtibpnlhdpdfhiaaDoor
open Go.RowKit

theorem put_any (k v : Int) (a : Option Addr) (len cap : Nat) (ys : List Nat) (w : World) (hr : RowB w a len cap ys) :
    Calls Tryd.prog 38 #[.agg #[.int .i64 k, .int .i64 v, .slice a len cap]] w fun e w' => PutIs w w' k v ys e := by
  by_cases hy : putE k v len ≠ 0
  · exact put_bad k v a len cap ys w hr hy
  · have hy' : ¬ (k < 0 ∨ 255 < k ∨ v < 0 ∨ 255 < v) ∧ ¬ 4096 < len := by
      unfold putE at hy
      by_cases h : k < 0 ∨ 255 < k ∨ v < 0 ∨ 255 < v
      · rw [if_pos h] at hy; simp at hy
      · rw [if_neg h] at hy
        by_cases h2 : 4096 < len
        · rw [if_pos h2] at hy; simp at hy
        · exact ⟨h, h2⟩
    exact put_good k v a len cap ys w hr (by omega) (by omega) (by omega) (by omega) (by omega)
theorem rput_any (k v : Int) (a : Option Addr) (len cap : Nat) (ys : List Nat) (w : World) (hr : RowB w a len cap ys) :
    Calls Tryd.prog 18 #[.agg #[.int .i64 k, .int .i64 v, .slice a len cap]] w fun e w' => PutIs w w' k v ys e := by
  by_cases hy : putE k v len ≠ 0
  · exact rput_bad k v a len cap ys w hr hy
  · have hy' : ¬ (k < 0 ∨ 255 < k ∨ v < 0 ∨ 255 < v) ∧ ¬ 4096 < len := by
      unfold putE at hy
      by_cases h : k < 0 ∨ 255 < k ∨ v < 0 ∨ 255 < v
      · rw [if_pos h] at hy; simp at hy
      · rw [if_neg h] at hy
        by_cases h2 : 4096 < len
        · rw [if_pos h2] at hy; simp at hy
        · exact ⟨h, h2⟩
    exact rput_good k v a len cap ys w hr (by omega) (by omega) (by omega) (by omega) (by omega)

def kb4 : List Nat := frmF 1 3 []
theorem kb4_put : putE 1 3 0 = 0 := by decide
theorem kb4_len : kb4.length = 16 := by rw [kb4, frmF_length]; rfl
theorem kb4_take : tkE kb4 = 0 ∧ tkK kb4 = 1 ∧ tkV kb4 = 3 ∧ tkM kb4 = 16 ∧ tkY kb4 = [] := by decide +kernel

end Go.Proofs.YtibpnlhdpdfhiaaDoor
