/- GI: FlowTouch, FlowDrop. -/
import Derived.Test.YtdhimlkndpiacaaGreatGFZ
section
/- Flows: Touch. -/
set_option linter.unusedVariables false
set_option linter.unusedSimpArgs false
namespace Go.Proofs.YtdhimlkndpiacaaGreat
open Go.RowKit

def touchB (M : List FlD) (t : TupD) (now : Int) : Bool := hasF M t && (timB now && decide ((getF M t).fs ≤ now))
def touchF (M : List FlD) (t : TupD) (now : Int) : List FlD := if touchB M t now = true then ⟨t, (getF M t).fb, (getF M t).fg, now⟩ :: delF M t else M
theorem getF_mem {M : List FlD} (hn : (M.map FlD.t).Nodup) {t : TupD} (h : hasF M t = true) : getF M t ∈ M ∧ (getF M t).t = t := by
  obtain ⟨f, hf, rfl⟩ := List.mem_map.1 ((hasF_iff _ _).1 h)
  rw [getF_of hn hf]
  exact ⟨hf, rfl⟩
theorem may_touch {f : FlD} {now : Int} (h : mayFB f = true) (ht : timB now = true) : mayFB ⟨f.t, f.fb, f.fg, now⟩ = true := by
  unfold mayFB rngF at *
  unfold timB at ht
  simp only [Bool.and_eq_true, decide_eq_true_iff] at *
  exact ⟨h.1, h.2.1, h.2.2.1, ht⟩
end Go.Proofs.YtdhimlkndpiacaaGreat

end

section
/- Flows: Drop. -/
set_option linter.unusedVariables false
set_option linter.unusedSimpArgs false
namespace Go.Proofs.YtdhimlkndpiacaaGreat
open Go.RowKit

end Go.Proofs.YtdhimlkndpiacaaGreat

end
