/- DueNil answers true for any key and any time. -/
import Derived.Test.YtdjkjdeaglimeaaDueAwake
import Derived.Test.YtdjkjdeaglimeaaFrDueNil
import Derived.Test.YtdjkjdeaglimeaaDueArgs
set_option linter.unusedVariables false
set_option linter.unusedSimpArgs false
namespace Go.Proofs.Ytdjkjdeaglimeaa
open Go.RowKit

theorem nlen (w : World) : Calls Try.prog 21 #[.pointer none] w fun e w' => e = .returned (.int .i64 0) ∧ w = w' := by
  go_enter Try.func21, Try.ntmps21
  go_wp2
  go_ret
  exact ⟨rfl, rfl⟩
theorem nat_ (w : World) (k : ByteArray) : Calls Try.prog 22 #[.pointer none, .string k] w fun e w' => e = .returned (.tuple #[.int .i64 0, .bool false]) ∧ w = w' := by
  go_enter Try.func22, Try.ntmps22
  go_wp2
  go_ret2
  exact ⟨rfl, rfl⟩
theorem nnext (w : World) : Calls Try.prog 20 #[.pointer none] w fun e w' => e = .returned (.tuple #[.string ByteArray.empty, .int .i64 0, .bool false]) ∧ w = w' := by
  go_enter Try.func20, Try.ntmps20
  go_wp2_with fail
  refine (nlen w).mono ?_
  rintro e w' ⟨rfl, rfl⟩
  go_wp2_with fail
  go_ret3
  exact ⟨rfl, rfl⟩
theorem nset (w : World) (k : ByteArray) (t : Int) : Calls Try.prog 13 #[.pointer none, .string k, .int .i64 t] w fun e w' => e = .returned (.int .i64 1) ∧ w = w' := by
  go_enter Try.func13, Try.ntmps13
  go_wp2
  go_ret
  exact ⟨rfl, rfl⟩
theorem ndrop (w : World) (k : ByteArray) : Calls Try.prog 15 #[.pointer none, .string k] w fun e w' => e = .returned (.bool false) ∧ w = w' := by
  go_enter Try.func15, Try.ntmps15
  go_wp2
  go_ret
  exact ⟨rfl, rfl⟩
theorem ndue (w : World) (t : Int) : Calls Try.prog 18 #[.pointer none, .int .i64 t] w fun e w' => e = .returned (.slice none 0 0) ∧ w = w' := by
  go_enter Try.func18, Try.ntmps18
  go_wp2_with fail
  go_loopw [5] (fun s5 wr => s5 = .slice none 0 0 ∧ wr = w) (fun _ _ => 0)
  case atStart => exact ⟨rfl, rfl⟩
  case round =>
    obtain ⟨rfl, rfl⟩ := hrel
    go_wp2_with fail
    refine (nnext _).mono ?_
    rintro e w' ⟨rfl, rfl⟩
    go_wp2_with fail
    go_ret
    exact ⟨rfl, rfl⟩
theorem nil10_walk (k : ByteArray) (t : Int) (w : World) :
    Calls Try.prog 5 #[.string k, .int .i64 t] w fun e w' => e = .returned (.bool true) ∧ Below w.heap.size w w' := by
  go_enter Try.func5, Try.ntmps5
  go_wp2_with (first | (go_at_call 22; refine (nat_ _ _).mono ?_; rintro e w' ⟨rfl, rfl⟩) | (go_at_call 20; refine (nnext _).mono ?_; rintro e w' ⟨rfl, rfl⟩) | (go_at_call 13; refine (nset _ _ _).mono ?_; rintro e w' ⟨rfl, rfl⟩) | (go_at_call 15; refine (ndrop _ _).mono ?_; rintro e w' ⟨rfl, rfl⟩) | (go_at_call 18; refine (ndue _ _).mono ?_; rintro e w' ⟨rfl, rfl⟩) | (go_at_call 21; refine (nlen _).mono ?_; rintro e w' ⟨rfl, rfl⟩))
  refine (awake10 w).mono ?_
  rintro e w5 ⟨rfl, t5⟩
  go_wp2_with fail
  go_ret
  exact ⟨rfl, t5.below (fun _ _ h => h.elim) (Nat.le_refl _)⟩
theorem dueNil_holds : Rows.DueNilSaid := by
  refine dueNil.said fun H enc W base v0 v1 d0 d1 p0 p1 h0 h1 => ?_
  obtain ⟨k, rfl, hk⟩ := h0.text Try.underlying9
  obtain ⟨t, rfl, ht1, ht2, _⟩ := h1.i64 Try.underlying2
  exact nil10_walk k t W
end Go.Proofs.Ytdjkjdeaglimeaa
