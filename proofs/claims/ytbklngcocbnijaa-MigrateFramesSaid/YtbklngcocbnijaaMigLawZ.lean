/- Migration: words of the laws; the known record. -/
import Derived.Test.YtbklngcocbnijaaMigRecZ
import Derived.Test.YtbklngcocbnijaaGCZ
set_option linter.unusedVariables false
set_option linter.unusedSimpArgs false
namespace Go.Proofs.Ytbklngcocbnijaa
open Go.RowKit

def lightM (r : RecD) : Bool := decide (r.bs.length ≤ 40)
theorem lightM_any (r : RecD) (a : Option Addr) (cap : Nat) (w : World) :
    Calls Try.prog 29 #[.agg (rcs r a cap)] w fun e w' => e = .returned (.bool (lightM r)) ∧ Touch w w' (fun _ => False) := by
  have HL : RowKit.Hid (lightM r = decide ((r.bs.length : Int) ≤ 40)) := Lib.hid (by unfold lightM; rw [decide_eq_decide]; omega)
  simp only [rcs]
  go_enter Try.func29, Try.ntmps29
  go_wp2
  go_ret
  exact ⟨by rw [HL.out]; rfl, (Touch.refl _ _).alloc _⟩
def k9 : RecD := ⟨1, ⟨0, 0, 6, 0, 0⟩, 0, 7, 9, 0, [], 0, 0, 0⟩
def m9 : RecD := ⟨1, ⟨0, 0, 6, 0, 0⟩, 0, 1, 0, 0, [], 0, 0, 0⟩
theorem k9_mig : migE k9 1 3 = 0 ∧ migR k9 1 3 = m9 := by
  have h : migE k9 1 3 = 0 := by decide
  refine ⟨h, ?_⟩
  unfold migR
  rw [if_pos h]
  rfl
theorem known_mig (w : World) : Calls Try.prog 31 #[.agg #[.int .i64 1, .int .u32 0, .int .u32 0, .int .i64 6, .int .i64 0, .int .i64 0, .int .i64 0, .int .i64 7, .int .i64 9, .int .i64 0, .slice none 0 0, .int .i64 0, .int .i64 0, .int .i64 0], .int .i64 1, .int .i64 3] w
    fun e w' => ∃ a c, e = .returned (.tuple #[.agg #[.int .i64 1, .int .u32 0, .int .u32 0, .int .i64 6, .int .i64 0, .int .i64 0, .int .i64 0, .int .i64 1, .int .i64 0, .int .i64 0, .slice a 0 c, .int .i64 0, .int .i64 0, .int .i64 0], .int .i64 0]) ∧ Touch w w' (fun _ => False) := by
  refine (mig_any k9 none 0 1 3 w (RowS.nil _ _ _ _ (by decide)) (by decide)).mono ?_
  rintro e w' ⟨a, c, rfl, ho, ht⟩
  obtain ⟨k1, k2⟩ := k9_mig
  rw [k1, k2]
  exact ⟨a, c, rfl, ht⟩
set_option maxRecDepth 20000 in
set_option maxHeartbeats 2000000 in
theorem awake9 (w : World) :
    Calls Try.prog 30 #[] w fun e w' => e = .returned (.bool true) ∧ Touch w w' (fun _ => False) := by
  have HQ := Lib.hid (known_mig w)
  have HS : RowKit.Hid (∀ w, Calls Try.prog 33 #[.int .i64 1, .int .i64 3] w fun e w' => e = .returned (.int .i64 2) ∧ w = w') := Lib.hid (fun w => steps_any 1 3 w)
  go_enter Try.func30, Try.ntmps30
  go_wp2_with (first
    | (go_at_call 31; (with_reducible refine HQ.out.mono ?_); rintro e w2 ⟨a, c, rfl, t2⟩; have HT := Lib.hid t2; clear t2)
    | (go_at_call 33; (with_reducible refine (HS.out _).mono ?_); rintro e w' ⟨rfl, rfl⟩))
  go_ret
  exact ⟨rfl, HT.out.alloc _⟩
end Go.Proofs.Ytbklngcocbnijaa
