/- The closure of DueOrder. -/
import Derived.Test.YtdjkjdeaglimeaaDueOrdM
set_option linter.unusedVariables false
set_option linter.unusedSimpArgs false
namespace Go.Proofs.Ytdjkjdeaglimeaa
open Go.RowKit

theorem modwO (t : Int) (m : Int) (h0 : 0 < m) (h1 : m ≤ 1000) : 0 ≤ wrap64 ((IntKind.u64.wrap t).tmod m) ∧ wrap64 ((IntKind.u64.wrap t).tmod m) < m := by
  have hu : 0 ≤ IntKind.u64.wrap t := by simp only [IntKind.wrap_u64]; omega
  have h2 : (IntKind.u64.wrap t).tmod m = (IntKind.u64.wrap t) % m := Int.tmod_eq_emod_of_nonneg hu
  have h3 := Int.emod_nonneg (IntKind.u64.wrap t) (show m ≠ 0 by omega)
  have h4 := Int.emod_lt_of_pos (IntKind.u64.wrap t) h0
  rw [h2]
  generalize (IntKind.u64.wrap t) % m = x at *
  have : wrap64 x = x := by unfold wrap64; omega
  omega
def gt (ts : List Int) (i : Nat) : Int := ts.getD i 0
def atT (ts : List Int) (i : Nat) : Int := if i < ts.length then wrap64 ((IntKind.u64.wrap (gt ts i)).tmod 50) else 7
theorem atT_in (ts : List Int) (i : Nat) : 0 ≤ atT ts i ∧ atT ts i < 50 := by
  unfold atT
  split
  · exact modwO _ 50 (by omega) (by omega)
  · omega
set_option maxRecDepth 20000 in
theorem at_any' (w : World) (bx : Nat) (a : Option Addr) (c : Nat) (ts : List Int) (hb : w.heap[bx]? = some (.cells #[.slice a ts.length c] 51 (0, 0))) (hr : RowS w a ts.length c 1 (ts.map (fun k => [Value.int .i64 k]))) (i : Nat) (hi : i ≤ 1000) :
    Calls Try.prog 25 #[.int .i64 i, .pointer (some ⟨bx, 0, none⟩)] w fun e w' => e = .returned (.int .i64 (atT ts i)) ∧ w = w' := by
  have c0 : w.cell? ⟨bx, 0, none⟩ = some (.slice a ts.length c) := cell_of_cells hb 0
  have hcap := hr.hcap
  have hmax := hr.hmax
  by_cases h : i < ts.length
  · have e1 : atT ts i = wrap64 ((IntKind.u64.wrap (gt ts i)).tmod 50) := by unfold atT; rw [if_pos h]
    rw [e1]
    obtain ⟨b, off, rfl⟩ := hr.some (by omega)
    have d0 : w.cell? ⟨b, off + i, none⟩ = some (.int .i64 (gt ts i)) := by
      have := hr.cell i (by simpa using h) 0 (.int .i64 (gt ts i)) (by simp [gt, List.getD_eq_getElem?_getD, List.getElem?_eq_getElem h])
      simpa using this
    have hI : (i : Int) < ts.length := by omega
    clear hb hr e1
    generalize gt ts i = z at *
    generalize ts.length = n at *
    go_enter Try.func25, Try.ntmps25
    go_wp2_with fail
    go_ret
    exact ⟨rfl, rfl⟩
  · have e1 : atT ts i = 7 := by unfold atT; rw [if_neg h]
    rw [e1]
    have hI : ¬ (i : Int) < ts.length := by omega
    clear hb hr e1
    generalize ts.length = n at *
    go_enter Try.func25, Try.ntmps25
    go_wp2_with fail
    go_ret
    exact ⟨rfl, rfl⟩
end Go.Proofs.Ytdjkjdeaglimeaa
