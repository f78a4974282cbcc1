import Derived.Test.YtpjdcgjoepjmcaaGreatGAZ
import Derived.SizedLaws
set_option linter.unusedVariables false
namespace Go.Proofs.YtpjdcgjoepjmcaaGreat.pathPlays
open Go.ChangeShapes Go.WideShapes Go.ChangeAt Go.RowKit
theorem own : ownKnob Tryz.prog.godebug = none := by kernel_rfl
def Walk : Prop := ∀ (H : Type) (enc : TypeId × Value → H) (W : World) (base : Nat) (v0 v1 v2 v3 : Value) (d0 d1 d2 d3 : DataW H) (p0 p1 p2 p3 : List MemPlace) (h0 : ArgIn enc Tryz.prog W base 3 v0 d0 p0) (h1 : ArgIn enc Tryz.prog W base 3 v1 d1 p1) (h2 : ArgIn enc Tryz.prog W base 3 v2 d2 p2) (h3 : ArgIn enc Tryz.prog W base 22 v3 d3 p3),
    Calls Tryz.prog 3 #[v0, v1, v2, v3] W fun e w' => e = .returned (.bool true) ∧ Below W.heap.size W w'
end Go.Proofs.YtpjdcgjoepjmcaaGreat.pathPlays
