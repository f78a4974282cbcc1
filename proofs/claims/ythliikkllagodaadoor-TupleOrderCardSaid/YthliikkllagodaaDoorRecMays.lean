/- Records: the small questions: is it a number, a time, a port, a tuple, a backend? -/
import Derived.Test.YthliikkllagodaaDoorRecSameK
set_option linter.unusedVariables false
set_option linter.unusedSimpArgs false
namespace Go.Proofs.YthliikkllagodaaDoor
open Go.RowKit

def idB (n : Int) : Bool := decide (0 ≤ n ∧ n ≤ 65535)
def cntB (n : Int) : Bool := decide (0 ≤ n ∧ n ≤ 1000000)
def timB (n : Int) : Bool := decide (0 ≤ n ∧ n ≤ 1099511627776)
def verB (n : Int) : Bool := decide (1 ≤ n ∧ n ≤ 3)
theorem idB_iff (n : Int) : idB n = true ↔ 0 ≤ n ∧ n ≤ 65535 := by unfold idB; exact decide_eq_true_iff
theorem cntB_iff (n : Int) : cntB n = true ↔ 0 ≤ n ∧ n ≤ 1000000 := by unfold cntB; exact decide_eq_true_iff
theorem timB_iff (n : Int) : timB n = true ↔ 0 ≤ n ∧ n ≤ 1099511627776 := by unfold timB; exact decide_eq_true_iff
theorem verB_iff (n : Int) : verB n = true ↔ 1 ≤ n ∧ n ≤ 3 := by unfold verB; exact decide_eq_true_iff
def mayTB (t : TupD) : Bool := decide ((t.proto = 6 ∨ t.proto = 17) ∧ (0 ≤ t.sport ∧ t.sport ≤ 65535) ∧ 0 ≤ t.dport ∧ t.dport ≤ 65535)
def mayKB (b : BkD) : Bool := decide ((0 ≤ b.id ∧ b.id ≤ 65535) ∧ 1 ≤ b.weight ∧ b.weight ≤ 10)
theorem mayTB_iff (t : TupD) : mayTB t = true ↔ ((t.proto = 6 ∨ t.proto = 17) ∧ (0 ≤ t.sport ∧ t.sport ≤ 65535) ∧ 0 ≤ t.dport ∧ t.dport ≤ 65535) := by unfold mayTB; exact decide_eq_true_iff
theorem mayKB_iff (b : BkD) : mayKB b = true ↔ ((0 ≤ b.id ∧ b.id ≤ 65535) ∧ 1 ≤ b.weight ∧ b.weight ≤ 10) := by unfold mayKB; exact decide_eq_true_iff
def tcs (t : TupD) : Array Value := #[.int .u32 t.src, .int .u32 t.dst, .int .i64 t.proto, .int .i64 t.sport, .int .i64 t.dport]
theorem ret_bool {a b : Bool} (h : a = b) : Ending.returned (.bool a) = .returned (.bool b) := by rw [h]
set_option maxHeartbeats 1000000
theorem isPort_any (n : Int) (w : World) :
    Calls Tryd.prog 75 #[.int .i64 n] w fun e w' => e = .returned (.bool (idB n)) ∧ w' = w := by
  have HM := Lib.hid (idB_iff n)
  generalize idB n = m at *
  go_enter Tryd.func75, Tryd.ntmps75
  go_wp2
  all_goals (go_ret; refine ⟨ret_bool ?_, rfl⟩; rw [Bool.eq_iff_iff, HM.out]; clear HM; (first | (simp_all; done) | (simp_all; omega)))
theorem rversion_any (n : Int) (w : World) :
    Calls Tryd.prog 59 #[.int .i64 n] w fun e w' => e = .returned (.bool (verB n)) ∧ w' = w := by
  have HM := Lib.hid (verB_iff n)
  generalize verB n = m at *
  go_enter Tryd.func59, Tryd.ntmps59
  go_wp2
  all_goals (go_ret; refine ⟨ret_bool ?_, rfl⟩; rw [Bool.eq_iff_iff, HM.out]; clear HM; (first | (simp_all; done) | (simp_all; omega)))

theorem mayT_any (t : TupD) (w : World) :
    Calls Tryd.prog 31 #[.agg (tcs t)] w fun e w' => e = .returned (.bool (mayTB t)) ∧ Touch w w' (fun _ => False) := by
  have HM := Lib.hid (mayTB_iff t)
  have H1 := Lib.hid (idB_iff t.sport)
  have H2 := Lib.hid (idB_iff t.dport)
  generalize mayTB t = m at *
  simp only [tcs]
  go_enter Tryd.func31, Tryd.ntmps31
  go_wp2_with (go_at_call 75; (with_reducible refine (isPort_any _ _).mono ?_); rintro e w' ⟨rfl, rfl⟩)
  all_goals (go_ret; refine ⟨ret_bool ?_, (Touch.refl _ _).alloc _⟩; rw [Bool.eq_iff_iff, HM.out, ← H1.out, ← H2.out]; clear HM H1 H2; (first | (simp_all; done) | (simp_all; omega)))
end Go.Proofs.YthliikkllagodaaDoor
