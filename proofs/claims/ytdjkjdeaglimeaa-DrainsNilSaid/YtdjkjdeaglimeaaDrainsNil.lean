/- DrainsNil answers true for any number and any time. -/
import Derived.Test.YtdjkjdeaglimeaaDrAwake
import Derived.Test.YtdjkjdeaglimeaaFrDrainsNil
set_option linter.unusedVariables false
set_option linter.unusedSimpArgs false
namespace Go.Proofs.Ytdjkjdeaglimeaa
open Go.RowKit

theorem nil12_walk (b u : Int) (w : World) :
    Calls Try.prog 10 #[.int .i64 b, .int .i64 u] w fun e w' => e = .returned (.bool true) ∧ Below w.heap.size w w' := by
  go_enter Try.func10, Try.ntmps10
  go_wp2_with (first
    | (go_at_call 33; refine (dnuntil _ _).mono ?_; rintro e w' ⟨rfl, rfl⟩)
    | (go_at_call 27; refine (dnput _ _ _).mono ?_; rintro e w' ⟨rfl, rfl⟩)
    | (go_at_call 29; refine (dnclear _ _).mono ?_; rintro e w' ⟨rfl, rfl⟩)
    | (go_at_call 35; refine (dnis _ _).mono ?_; rintro e w' ⟨rfl, rfl⟩)
    | (go_at_call 31; refine (dndue _ _).mono ?_; rintro e w' ⟨rfl, rfl⟩)
    | (go_at_call 37; refine (dnall _).mono ?_; rintro e w' ⟨rfl, rfl⟩)
    | (go_at_call 38; refine (dnlen _).mono ?_; rintro e w' ⟨rfl, rfl⟩))
  refine (awake12 w).mono ?_
  rintro e w5 ⟨rfl, t5⟩
  go_wp2_with fail
  go_ret
  exact ⟨rfl, t5.below (fun _ _ h => h.elim) (Nat.le_refl _)⟩
theorem drainsNil_holds : Rows.DrainsNilSaid := by
  refine drainsNil.said fun H enc W base v0 v1 d0 d1 p0 p1 h0 h1 => ?_
  obtain ⟨b, rfl, _⟩ := h0.i64 Try.underlying3
  obtain ⟨u, rfl, _⟩ := h1.i64 Try.underlying2
  exact nil12_walk b u W
end Go.Proofs.Ytdjkjdeaglimeaa
