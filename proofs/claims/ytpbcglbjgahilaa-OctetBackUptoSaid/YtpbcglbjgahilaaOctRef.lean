/- What the reference's numbers as bytes are. -/
import Derived.Test.YtpbcglbjgahilaaOctS
set_option linter.unusedVariables false
namespace Go.Proofs.Ytpbcglbjgahilaa
open Go.RowKit

theorem be_two (n : Int) : [Value.int .u8 (n / 256 % 256), Value.int .u8 (n % 256)] = (beB 2 (u64N n)).map cellB := by
  simp [beB, List.range_succ, cellB, u64N]
  omega
theorem be_four (n : Int) (hn : 0 ≤ n ∧ n ≤ 4294967295) : [Value.int .u8 (n / 16777216), Value.int .u8 (n / 65536 % 256), Value.int .u8 (n / 256 % 256), Value.int .u8 (n % 256)] = (beB 4 (u64N n)).map cellB := by
  simp [beB, List.range_succ, cellB, u64N]
  omega
theorem be_eight (x : Nat) (hx : x < 18446744073709551616) : beB 4 (u64N ((x : Int) / 4294967296)) ++ beB 4 (u64N ((x : Int) % 4294967296)) = beB 8 x := by
  simp [beB, List.range_succ, u64N]
  omega

set_option maxHeartbeats 1000000 in
theorem ref_u16 (n : Int) (w : World) (hn : -9223372036854775808 ≤ n ∧ n ≤ 9223372036854775807) :
    Calls Try.prog 11 #[.int .i64 n] w fun e w' => ∃ a' cap', e = .returned (.slice a' 2 cap') ∧ FreshB w w' (.slice a' 2 cap') (beB 2 (u64N n)) := by
  go_enter Try.func11, Try.ntmps11
  go_wp2_with fail
  go_ret
  exact ⟨_, _, rfl, OwnB.lit w _ rfl _ (Nat.le_refl _) _ _ _ _ (be_two n) (beB_length _ _) (beB_small _ _) (by decide), (Touch.refl _ _).alloc _⟩
set_option maxHeartbeats 1000000 in
theorem ref_u32 (n : Int) (w : World) (hn : 0 ≤ n ∧ n ≤ 4294967295) :
    Calls Try.prog 13 #[.int .u32 n] w fun e w' => ∃ a' cap', e = .returned (.slice a' 4 cap') ∧ FreshB w w' (.slice a' 4 cap') (beB 4 (u64N n)) := by
  go_enter Try.func13, Try.ntmps13
  go_wp2_with fail
  go_ret
  exact ⟨_, _, rfl, OwnB.lit w _ rfl _ (Nat.le_refl _) _ _ _ _ (be_four n hn) (beB_length _ _) (beB_small _ _) (by decide), (Touch.refl _ _).alloc _⟩
set_option maxHeartbeats 1000000 in
theorem ref_i64 (n : Int) (w : World) (hn : -9223372036854775808 ≤ n ∧ n ≤ 9223372036854775807) :
    Calls Try.prog 15 #[.int .i64 n] w fun e w' => ∃ a' cap', e = .returned (.slice a' 8 cap') ∧ FreshB w w' (.slice a' 8 cap') (beB 8 (u64N n)) := by
  have hw := u64N_wrap n
  have hl := u64N_lt n
  go_enter Try.func15, Try.ntmps15
  go_wp2_with fail
  refine (ref_u32 _ w (by omega)).mono ?_
  rintro e w1 ⟨a1, c1, rfl, hown1, ht1⟩
  go_wp2_with fail
  refine (ref_u32 _ w1 (by omega)).mono ?_
  rintro e w2 ⟨a2, c2, rfl, hown2, ht2⟩
  obtain ⟨a2', c2', hv2, hrow2, _⟩ := hown2.row
  simp only [beB_length, Value.slice.injEq, true_and] at hv2 hrow2
  obtain ⟨rfl, rfl⟩ := hv2
  have hown1' := hown1.touch ht2 (fun _ _ h => h)
  have hbe := be_eight (u64N n) hl
  have h12 : w.heap.size ≤ w1.heap.size := ht1.size
  have hb2 : Below w.heap.size w w2 := (ht1.trans ht2 (fun _ _ h => h)).below (fun _ _ h => h.elim) (Nat.le_refl _)
  go_wp2_with (at_builtin; refine wpList_appendB rfl _ _ 24 rfl 5 Try.underlying24 infoB w.heap.size (.slice a1 4 c1) (beB 4 (u64N ((u64N n : Int) / 4294967296))) rfl hown1' _ _ _ (beB 4 (u64N ((u64N n : Int) % 4294967296))) rfl hrow2 8 (beB 8 (u64N n)) hbe (beB_length _ _) (by omega) hb2.size w.heap.size w hb2 (Nat.le_refl _) ?_; intro a3 c3 w3 hown3 hr3 hg3 hb3 hs3 hp3 hl3)
  go_ret
  exact ⟨_, _, rfl, hown3, Touch.ofBelow hb3 (fun k h1 h2 => by omega)⟩
end Go.Proofs.Ytpbcglbjgahilaa
