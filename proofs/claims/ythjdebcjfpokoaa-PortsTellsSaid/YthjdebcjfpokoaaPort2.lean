/- Two bytes of a number, as the laws of ports make them. -/
import Derived.Test.YthjdebcjfpokoaaPortK
set_option linter.unusedVariables false
namespace Go.Proofs.Ythjdebcjfpokoaa
open Go.RowKit

set_option maxHeartbeats 1000000 in
theorem bytes2_any (n : Int) (w : World) (hn : isI64 n) :
    Calls Try.prog 47 #[.int .i64 n] w fun e w' => ∃ a' cap', e = .returned (.slice a' 2 cap') ∧ FreshB w w' (.slice a' 2 cap') (beB 2 (u64N n)) := by
  unfold isI64 at hn
  go_enter Try.func47, Try.ntmps47
  go_wp2_with fail
  go_ret
  exact ⟨_, _, rfl, OwnB.lit w _ rfl _ (Nat.le_refl _) _ _ _ _ (be_two n) (beB_length _ _) (beB_small _ _) (by decide), (Touch.refl _ _).alloc _⟩
end Go.Proofs.Ythjdebcjfpokoaa
