/- Put and Take of frames, whatever comes; the known frame: awake answers true. -/
import Derived.Test.YtjmhfbfpndpkkaaFrmPut
import Derived.Test.YtjmhfbfpndpkkaaFrmRef
import Derived.Test.YtjmhfbfpndpkkaaFrmRTake
set_option linter.unusedVariables false
namespace Go.Proofs.Ytjmhfbfpndpkkaa
open Go.RowKit

theorem put_any (k v : Int) (a : Option Addr) (len cap : Nat) (ys : List Nat) (w : World) (hr : RowB w a len cap ys) :
    Calls Try.prog 9 #[.agg #[.int .i64 k, .int .i64 v, .slice a len cap]] w fun e w' => PutIs w w' k v ys e := by
  by_cases hy : putE k v len ≠ 0
  · exact put_bad k v a len cap ys w hr hy
  · have hy' : ¬ (k < 0 ∨ 255 < k ∨ v < 0 ∨ 255 < v) ∧ ¬ 4096 < len := by
      unfold putE at hy
      by_cases h : k < 0 ∨ 255 < k ∨ v < 0 ∨ 255 < v
      · rw [if_pos h] at hy; simp at hy
      · rw [if_neg h] at hy
        by_cases h2 : 4096 < len
        · rw [if_pos h2] at hy; simp at hy
        · exact ⟨h, h2⟩
    exact put_good k v a len cap ys w hr (by omega) (by omega) (by omega) (by omega) (by omega)
theorem rput_any (k v : Int) (a : Option Addr) (len cap : Nat) (ys : List Nat) (w : World) (hr : RowB w a len cap ys) :
    Calls Try.prog 10 #[.agg #[.int .i64 k, .int .i64 v, .slice a len cap]] w fun e w' => PutIs w w' k v ys e := by
  by_cases hy : putE k v len ≠ 0
  · exact rput_bad k v a len cap ys w hr hy
  · have hy' : ¬ (k < 0 ∨ 255 < k ∨ v < 0 ∨ 255 < v) ∧ ¬ 4096 < len := by
      unfold putE at hy
      by_cases h : k < 0 ∨ 255 < k ∨ v < 0 ∨ 255 < v
      · rw [if_pos h] at hy; simp at hy
      · rw [if_neg h] at hy
        by_cases h2 : 4096 < len
        · rw [if_pos h2] at hy; simp at hy
        · exact ⟨h, h2⟩
    exact rput_good k v a len cap ys w hr (by omega) (by omega) (by omega) (by omega) (by omega)

def kb4 : List Nat := frmF 1 3 []
theorem kb4_put : putE 1 3 0 = 0 := by decide
theorem kb4_len : kb4.length = 16 := by rw [kb4, frmF_length]; rfl
theorem kb4_take : tkE kb4 = 0 ∧ tkK kb4 = 1 ∧ tkV kb4 = 3 ∧ tkM kb4 = 16 ∧ tkY kb4 = [] := by decide +kernel

set_option maxRecDepth 20000 in
set_option maxHeartbeats 4000000 in
theorem awake4 (w : World) :
    Calls Try.prog 12 #[] w fun e w' => e = .returned (.bool true) ∧ Touch w w' (fun _ => False) := by
  have HP := Lib.hid (put_any 1 3 none 0 0 [] w (RowB.nil _ _ _ (by decide)))
  have HE : RowKit.Hid (putE 1 3 ([] : List Nat).length = 0) := Lib.hid kb4_put
  have HF : RowKit.Hid (putF 1 3 [] = kb4) := Lib.hid (by unfold putF; rw [if_pos HE.out]; rfl)
  go_enter Try.func12, Try.ntmps12
  go_wp2_with fail
  (with_reducible refine HP.out.mono ?_)
  rintro e w1 ⟨a1, c1, rfl, hf1⟩
  rw [HF.out, HE.out, kb4_len]
  rw [HF.out, kb4_len] at hf1
  obtain ⟨-, hr1⟩ := hf1.row'
  have T1 := Lib.hid hf1.2
  have H2 := Lib.hid (take_any a1 16 c1 kb4 w1 hr1 (by decide))
  clear hf1 hr1 HP
  go_wp2_with fail
  (with_reducible refine H2.out.mono ?_)
  rintro e w2 ⟨a2, c2, rfl, hf2⟩
  obtain ⟨k1, k2, k3, k4, k5⟩ := kb4_take
  rw [k1, k2, k3, k4, k5]
  have T2 := Lib.hid (T1.out.trans hf2.2 (fun _ _ h => h))
  clear hf2 H2 k1 k2 k3 k4 k5
  simp only [fcs, List.length_nil]
  go_wp2
  go_ret
  exact ⟨rfl, T2.out.alloc _⟩
end Go.Proofs.Ytjmhfbfpndpkkaa
