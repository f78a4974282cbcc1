/- What the reference's numbers as bytes are. -/
import Derived.Test.YthjdebcjfpokoaaOctS
set_option linter.unusedVariables false
namespace Go.Proofs.Ythjdebcjfpokoaa
open Go.RowKit

theorem be_two (n : Int) : [Value.int .u8 (n / 256 % 256), Value.int .u8 (n % 256)] = (beB 2 (u64N n)).map cellB := by
  simp [beB, List.range_succ, cellB, u64N]
  omega
theorem be_four (n : Int) (hn : 0 ≤ n ∧ n ≤ 4294967295) : [Value.int .u8 (n / 16777216), Value.int .u8 (n / 65536 % 256), Value.int .u8 (n / 256 % 256), Value.int .u8 (n % 256)] = (beB 4 (u64N n)).map cellB := by
  simp [beB, List.range_succ, cellB, u64N]
  omega
theorem be_eight (x : Nat) (hx : x < 18446744073709551616) : beB 4 (u64N ((x : Int) / 4294967296)) ++ beB 4 (u64N ((x : Int) % 4294967296)) = beB 8 x := by
  simp [beB, List.range_succ, u64N]
  omega

set_option maxHeartbeats 1000000 in
theorem ref_u16 (n : Int) (w : World) (hn : -9223372036854775808 ≤ n ∧ n ≤ 9223372036854775807) :
    Calls Try.prog 43 #[.int .i64 n] w fun e w' => ∃ a' cap', e = .returned (.slice a' 2 cap') ∧ FreshB w w' (.slice a' 2 cap') (beB 2 (u64N n)) := by
  go_enter Try.func43, Try.ntmps43
  go_wp2_with fail
  go_ret
  exact ⟨_, _, rfl, OwnB.lit w _ rfl _ (Nat.le_refl _) _ _ _ _ (be_two n) (beB_length _ _) (beB_small _ _) (by decide), (Touch.refl _ _).alloc _⟩
set_option maxHeartbeats 1000000 in
theorem ref_u32 (n : Int) (w : World) (hn : 0 ≤ n ∧ n ≤ 4294967295) :
    Calls Try.prog 44 #[.int .u32 n] w fun e w' => ∃ a' cap', e = .returned (.slice a' 4 cap') ∧ FreshB w w' (.slice a' 4 cap') (beB 4 (u64N n)) := by
  go_enter Try.func44, Try.ntmps44
  go_wp2_with fail
  go_ret
  exact ⟨_, _, rfl, OwnB.lit w _ rfl _ (Nat.le_refl _) _ _ _ _ (be_four n hn) (beB_length _ _) (beB_small _ _) (by decide), (Touch.refl _ _).alloc _⟩
end Go.Proofs.Ythjdebcjfpokoaa
