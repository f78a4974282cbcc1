/- Rows of drains are held against one another. -/
import Derived.Test.YtdjkjdeaglimeaaDrRef
set_option linter.unusedVariables false
set_option linter.unusedSimpArgs false
namespace Go.Proofs.Ytdjkjdeaglimeaa
open Go.RowKit

set_option maxRecDepth 20000 in
set_option maxHeartbeats 4000000 in
theorem sameD_any (w : World) (a a2 : Option Addr) (n c c2 : Nat) (A : List DR) (hA : RowS w a n c 2 (A.map dcl)) (hB : RowS w a2 n c2 2 (A.map dcl)) (hs : n ≤ 1024) :
    Calls Try.prog 36 #[.slice a n c, .slice a2 n c2] w fun e w' => e = .returned (.bool true) ∧ Touch w w' (fun _ => False) := by
  have hn : A.length = n := by have := hA.hlen; simpa using this
  have HA := Lib.hid hA
  have HB := Lib.hid hB
  clear hA hB
  go_enter Try.func36, Try.ntmps36
  go_wp2_with fail
  go_loopw [13] (fun s13 wr => ∃ k : Nat, k ≤ n ∧ s13 = .int .i64 k ∧ Touch w wr (fun _ => False)) (fun s13 _ => n - (RowKit.intOf s13).toNat)
  case atStart => exact ⟨0, Nat.zero_le _, rfl, Touch.refl _ _⟩
  case round =>
    obtain ⟨k, hk, rfl, ht⟩ := hrel
    have HT := Lib.hid ht
    clear ht
    by_cases hlt : k < n
    case neg =>
      obtain rfl : n = k := by omega
      go_wp2_with fail
      go_ret
      exact ⟨rfl, HT.out⟩
    case pos =>
      have hkA : k < (A.map dcl).length := by simp; omega
      have rA := HA.out.still HT.out
      have rB := HB.out.still HT.out
      obtain ⟨b1, o1, ea⟩ := rA.some (by omega)
      obtain ⟨b2, o2, eb⟩ := rB.some (by omega)
      subst ea eb
      have e : (A.map dcl)[k] = dcl (gd A k) := by rw [List.getElem_map, gd_get A k (by omega)]
      have c1 := rA.cell k hkA 0 (.int .i64 (gd A k).b) (by rw [e]; rfl)
      have c1' := rA.cell k hkA 1 (.int .i64 (gd A k).u) (by rw [e]; rfl)
      have c2' := rB.cell k hkA 0 (.int .i64 (gd A k).b) (by rw [e]; rfl)
      have c2'' := rB.cell k hkA 1 (.int .i64 (gd A k).u) (by rw [e]; rfl)
      rw [Nat.add_zero] at c1 c2'
      have hlI : (k : Int) < n := by omega
      have hcA := rA.hcap
      have hcB := rB.hcap
      have hmA := rA.hmax
      have hmB := rB.hmax
      clear rA rB e
      generalize (gd A k).b = kb at *
      generalize (gd A k).u = ku at *
      go_upto_region 6 with (fail)
      go_quiet (fail)
      all_goals (go_wp2_with fail)
      all_goals (go_roundw)
      all_goals first
        | exact ⟨k + 1, by omega, by go_num, HT.out.drewN _⟩
        | (simp only [RowKit.intOf]; omega)
end Go.Proofs.Ytdjkjdeaglimeaa
