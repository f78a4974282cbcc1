/- Records: may one be? What the reference's MayRecord answers. -/
import Derived.Test.YtgmimdnebgncoaaRecMayZ
import Derived.Test.YtgmimdnebgncoaaRecSameZ
import Derived.Deep.DeepCutAuto
set_option linter.unusedVariables false
set_option linter.unusedSimpArgs false
namespace Go.Proofs.Ytgmimdnebgncoaa
open Go.RowKit

def mayPB (p : RecD) : Bool :=
  (if p.kind = 1 ∨ p.kind = 2 then mayTB p.t else true) && decide (p.bs.length ≤ 16) && p.bs.all mayKB && idB p.fb && cntB p.fg && timB p.fs && cntB p.gen && idB p.be && timB p.un && cntB p.ct
theorem zero_ok : idB 0 = true ∧ cntB 0 = true ∧ timB 0 = true := by decide
theorem mayP_eq (r : RecD) (h1 : 1 ≤ r.kind) (h2 : r.kind ≤ 6) : mayPB (plainD r) = mayRB r := by
  obtain ⟨z1, z2, z3⟩ := zero_ok
  have h : r.kind = 1 ∨ r.kind = 2 ∨ r.kind = 3 ∨ r.kind = 4 ∨ r.kind = 5 ∨ r.kind = 6 := by omega
  obtain ⟨kind, t, fb, fg, fs, gen, bs, be, un, ct⟩ := r
  simp only at h
  rcases h with rfl | rfl | rfl | rfl | rfl | rfl <;> simp [mayPB, plainD, mayRB, z1, z2, z3]
  · cases cntB gen <;> cases decide (bs.length ≤ 16) <;> simp
theorem plain_kind (r : RecD) : (plainD r).kind = r.kind := by
  unfold plainD
  repeat' split
  all_goals simp_all

end Go.Proofs.Ytgmimdnebgncoaa
