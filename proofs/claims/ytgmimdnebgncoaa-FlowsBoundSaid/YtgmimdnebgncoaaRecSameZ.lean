/- Records: are two the same in all that is plain? -/
import Derived.Test.YtgmimdnebgncoaaRecRPlainZ
import Derived.Test.YtgmimdnebgncoaaGCZ
import Derived.Test.YtgmimdnebgncoaaGAZ
import Derived.Deep.DeepCutAuto
set_option linter.unusedVariables false
set_option linter.unusedSimpArgs false
namespace Go.Proofs.Ytgmimdnebgncoaa
open Go.RowKit

def RecD.nums (r : RecD) : List Int := [r.kind, r.t.src, r.t.dst, r.t.proto, r.t.sport, r.t.dport, r.fb, r.fg, r.fs, r.gen, r.be, r.un, r.ct]
def RecD.val (r : RecD) : List Int × List (Int × Int × Int) := (r.nums, r.bs.map BkD.val)
/-- The same in all that is plain? -/
def sameR (r s : RecD) : Bool := decide ((plainD r).val = (plainD s).val)
theorem val_eq (p q : RecD) : (p.val = q.val) = (p.kind = q.kind ∧ (p.t.src = q.t.src ∧ p.t.dst = q.t.dst ∧ p.t.proto = q.t.proto ∧ p.t.sport = q.t.sport ∧ p.t.dport = q.t.dport) ∧ (p.fb = q.fb ∧ p.fg = q.fg ∧ p.fs = q.fs) ∧ p.gen = q.gen ∧ p.bs.map BkD.val = q.bs.map BkD.val ∧ p.be = q.be ∧ p.un = q.un ∧ p.ct = q.ct) := by
  apply propext
  simp only [RecD.val, RecD.nums, Prod.mk.injEq, List.cons.injEq, and_true]
  constructor
  · rintro ⟨⟨h1, h2, h3, h4, h5, h6, h7, h8, h9, h10, h11, h12, h13⟩, h14⟩
    exact ⟨h1, ⟨h2, h3, h4, h5, h6⟩, ⟨h7, h8, h9⟩, h10, h14, h11, h12, h13⟩
  · rintro ⟨h1, ⟨h2, h3, h4, h5, h6⟩, ⟨h7, h8, h9⟩, h10, h14, h11, h12, h13⟩
    exact ⟨⟨h1, h2, h3, h4, h5, h6, h7, h8, h9, h10, h11, h12, h13⟩, h14⟩
theorem ret_iff {X : Prop} [Decidable X] (b : Bool) (h : b = true ↔ X) : Ending.returned (.bool b) = .returned (.bool (decide X)) := by
  have e : decide X = b := by
    cases b
    · exact decide_eq_false (fun x => by have := h.2 x; cases this)
    · exact decide_eq_true (h.1 rfl)
  rw [e]
theorem rcs_all (r : RecD) (a : Option Addr) (cap : Nat) : (rcs r a cap).toList.all (·.oneCell') = true := rfl
end Go.Proofs.Ytgmimdnebgncoaa
