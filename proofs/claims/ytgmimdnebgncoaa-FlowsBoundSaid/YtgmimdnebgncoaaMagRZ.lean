/- May a table have so many slots; a backend's row; may a set of backends be. -/
import Derived.Test.YtgmimdnebgncoaaMagWZ
import Derived.Test.YtgmimdnebgncoaaSumWalk3Z
import Derived.Test.YtgmimdnebgncoaaGCZ
set_option linter.unusedVariables false
namespace Go.Proofs.Ytgmimdnebgncoaa
open Go.RowKit

def mayS (n : Nat) : Bool := (List.range 16).all (fun k => decide (¬ (2 ≤ k ∧ k * k ≤ n ∧ n % k = 0)))
theorem mayS_iff (n : Nat) : mayS n = true ↔ ∀ k, k < 16 → ¬ (2 ≤ k ∧ k * k ≤ n ∧ n % k = 0) := by
  unfold mayS; rw [List.all_eq_true]; simp only [List.mem_range, decide_eq_true_iff]
theorem prm_may {n : Nat} (h : Prm n) : mayS n = true := by
  rw [mayS_iff]
  rintro k hk ⟨h2, hkk, hm⟩
  have hlt : k < n := by
    have := Nat.mul_le_mul_right k h2
    have := h.lo
    omega
  obtain ⟨i, _, he⟩ := h.inv k hlt (by omega)
  have hd : k ∣ n := Nat.dvd_of_mod_eq_zero hm
  have h1 : k ∣ k * i % n := (Nat.dvd_mod_iff hd).2 ⟨i, rfl⟩
  rw [he] at h1
  have := Nat.le_of_dvd (by omega) h1
  omega

/-- One of a set may stand where it stands. -/
def okAt (bs : List BkD) (i : Nat) : Bool := match bs[i]? with
  | none => true
  | some b => mayKB b && (i == 0 || match bs[i - 1]? with | none => true | some a => decide (a.id < b.id))
def gmay (bs : List BkD) : Bool := decide (bs.length ≤ 16) && (List.range bs.length).all (okAt bs)
theorem gmay_iff (bs : List BkD) : gmay bs = true ↔ bs.length ≤ 16 ∧ ∀ i, i < bs.length → okAt bs i = true := by
  unfold gmay; rw [Bool.and_eq_true, decide_eq_true_iff, List.all_eq_true]; simp only [List.mem_range]
theorem okAt_zero {bs : List BkD} {b : BkD} (h : bs[0]? = some b) : okAt bs 0 = mayKB b := by unfold okAt; rw [h]; simp
theorem okAt_succ {bs : List BkD} {i : Nat} {a b : BkD} (h : bs[i + 1]? = some b) (h2 : bs[i]? = some a) : okAt bs (i + 1) = (mayKB b && decide (a.id < b.id)) := by unfold okAt; rw [h]; simp [h2]

end Go.Proofs.Ytgmimdnebgncoaa
