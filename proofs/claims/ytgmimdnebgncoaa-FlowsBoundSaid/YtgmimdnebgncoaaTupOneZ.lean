/- A tuple that may be is read, and what is behind it is left. -/
import Derived.Test.YtgmimdnebgncoaaTupReadZ
import Derived.Test.YtgmimdnebgncoaaDecMathZ
set_option linter.unusedVariables false
namespace Go.Proofs.Ytgmimdnebgncoaa
open Go.RowKit

def bytesT (ts : List TupD) : List Nat := ts.flatMap tbF
/-- A tuple that may be is read; what is behind it is left. -/
theorem read_one (G : Nat) (t : TupD) (r : List TupD) (ok : TupOk t) (hm : mayTB t = true) (w : World) (h : RdD w G (fun _ => False) (bytesT (t :: r)) 0) :
    Calls Try.prog 30 #[.pointer (some ⟨G, 0, none⟩)] w fun e w' => e = .returned (.tuple #[.agg (tcs t), .bool true]) ∧ RdD w' G (fun _ => False) (bytesT r) 0 ∧ Touch w w' (fun k => k = G) := by
  have eb : bytesT (t :: r) = tbF t ++ bytesT r := by simp [bytesT]
  have h13 : 13 ≤ (tbF t ++ bytesT r).length := by rw [List.length_append, tbF_length]; omega
  have hB : rtB (tbF t ++ bytesT r) = true := by unfold rtB; rw [tupV_tb t ok hm, hm, decide_eq_true h13]; rfl
  have hF : rtF (tbF t ++ bytesT r) = t := by unfold rtF; rw [if_pos hB, tupV_tb t ok hm]
  have hX : nxtX 13 (tbF t ++ bytesT r) = bytesT r := by
    unfold nxtX; rw [if_pos h13, List.drop_append, tbF_length]
    rw [List.drop_eq_nil_of_le (by rw [tbF_length]; omega)]; simp
  have hE : nxtE 13 (tbF t ++ bytesT r) 0 = 0 := by unfold nxtE; rw [if_pos h13]
  refine (tRead_any G _ _ 0 w h).mono ?_
  rintro e w' ⟨he, h1, h2⟩
  rw [eb, hX, hE] at h1
  rw [eb, hB, hF] at he
  exact ⟨he, h1, h2⟩
theorem read_none (G : Nat) (w : World) (h : RdD w G (fun _ => False) [] 0) :
    Calls Try.prog 30 #[.pointer (some ⟨G, 0, none⟩)] w fun e w' => e = .returned (.tuple #[.agg (tcs noT), .bool false]) ∧ Touch w w' (fun k => k = G) :=
  (tRead_any G _ _ 0 w h).mono fun e w' ⟨he, _, h2⟩ => ⟨he, h2⟩

end Go.Proofs.Ytgmimdnebgncoaa
