import Derived.Test.YtpjdcgjoepjmcaaGreatGCZ
set_option linter.unusedVariables false
namespace Go.Proofs.YtpjdcgjoepjmcaaGreat
open Go.ChangeShapes Go.WideShapes Go.ChangeAt Go.RowKit

theorem ArgIn.tupD {H : Type} {enc : TypeId × Value → H} {W : World} {base : Nat} {v : Value} {d : DataW H} {p : List MemPlace} (h : ArgIn enc Tryz.prog W base 37 v d p) : ∃ t : TupD, v = .agg (tcs t) ∧ TupOk t := by
  obtain ⟨cs, rfl, _⟩ := h.struct Tryz.underlying37
  obtain ⟨t, hc, ok⟩ := h.tr.tupD
  refine ⟨t, ?_, ok⟩
  simp only [Value.cells] at hc
  have := congrArg List.toArray hc
  simp at this
  rw [this]; rfl
end Go.Proofs.YtpjdcgjoepjmcaaGreat
