/- A header that came in. -/
import Derived.Test.YthjdebcjfpokoaaArgs2
import Derived.Test.YthjdebcjfpokoaaIpBuild
set_option linter.unusedVariables false
namespace Go.Proofs.Ythjdebcjfpokoaa
open Go.ChangeShapes Go.WideShapes Go.ChangeAt Go.RowKit

theorem ArgIn.header {H : Type} {enc : TypeId × Value → H} {W : World} {base : Nat} {v : Value} {d : DataW H} {p : List MemPlace} (h : ArgIn enc Try.prog W base 24 v d p) :
    ∃ a : HArg, v = .agg (acs a) ∧ a.Ok := by
  obtain ⟨cs, rfl, hl, hf⟩ := h.struct Try.underlying24
  have hc : Try.prog.cellsOf 24 = 11 := by kernel_rfl
  have ci : Try.prog.cellsOf 3 = 1 := by kernel_rfl
  have cu : Try.prog.cellsOf 22 = 1 := by kernel_rfl
  rw [hc] at hl
  obtain ⟨a0, a1, a2, a3, a4, a5, a6, a7, a8, a9, a10, rfl⟩ := eleven hl
  have I : ∀ u, (∃ fuel y, DataW.trod enc Try.prog W 0 (fun _ => true) true fuel 3 [u] = some y) → ∃ x : Int, u = .int .i64 x ∧ isI64 x := by
    rintro u ⟨fuel, y, hy⟩
    obtain ⟨x, hx, hw⟩ := oneInt Try.underlying3 hy
    exact ⟨x, hx, bounds_i64 hw⟩
  have U : ∀ u, (∃ fuel y, DataW.trod enc Try.prog W 0 (fun _ => true) true fuel 22 [u] = some y) → ∃ x : Int, u = .int .u32 x ∧ 0 ≤ x ∧ x ≤ 4294967295 := by
    rintro u ⟨fuel, y, hy⟩
    obtain ⟨x, hx, hw⟩ := oneInt Try.underlying22 hy
    exact ⟨x, hx, bounds_u32 hw⟩
  have Z : (∃ fuel y, DataW.trod enc Try.prog W 0 (fun _ => true) true fuel 3 [a0] = some y) ∧ (∃ fuel y, DataW.trod enc Try.prog W 0 (fun _ => true) true fuel 3 [a1] = some y) ∧ (∃ fuel y, DataW.trod enc Try.prog W 0 (fun _ => true) true fuel 3 [a2] = some y) ∧ (∃ fuel y, DataW.trod enc Try.prog W 0 (fun _ => true) true fuel 3 [a3] = some y) ∧ (∃ fuel y, DataW.trod enc Try.prog W 0 (fun _ => true) true fuel 3 [a4] = some y) ∧ (∃ fuel y, DataW.trod enc Try.prog W 0 (fun _ => true) true fuel 3 [a5] = some y) ∧ (∃ fuel y, DataW.trod enc Try.prog W 0 (fun _ => true) true fuel 3 [a6] = some y) ∧ (∃ fuel y, DataW.trod enc Try.prog W 0 (fun _ => true) true fuel 3 [a7] = some y) ∧ (∃ fuel y, DataW.trod enc Try.prog W 0 (fun _ => true) true fuel 3 [a8] = some y) ∧ (∃ fuel y, DataW.trod enc Try.prog W 0 (fun _ => true) true fuel 22 [a9] = some y) ∧ (∃ fuel y, DataW.trod enc Try.prog W 0 (fun _ => true) true fuel 22 [a10] = some y) := by
    refine ⟨?_, ?_, ?_, ?_, ?_, ?_, ?_, ?_, ?_, ?_, ?_⟩
    · have q : ∃ fuel y, DataW.trod enc Try.prog W 0 (fun _ => true) true fuel 3 ((([a0, a1, a2, a3, a4, a5, a6, a7, a8, a9, a10] : List Value).drop 0).take (Try.prog.cellsOf 3)) = some y := hf 0 _ rfl
      rw [ci] at q; exact q
    · have q : ∃ fuel y, DataW.trod enc Try.prog W 0 (fun _ => true) true fuel 3 ((([a0, a1, a2, a3, a4, a5, a6, a7, a8, a9, a10] : List Value).drop 1).take (Try.prog.cellsOf 3)) = some y := hf 1 _ rfl
      rw [ci] at q; exact q
    · have q : ∃ fuel y, DataW.trod enc Try.prog W 0 (fun _ => true) true fuel 3 ((([a0, a1, a2, a3, a4, a5, a6, a7, a8, a9, a10] : List Value).drop 2).take (Try.prog.cellsOf 3)) = some y := hf 2 _ rfl
      rw [ci] at q; exact q
    · have q : ∃ fuel y, DataW.trod enc Try.prog W 0 (fun _ => true) true fuel 3 ((([a0, a1, a2, a3, a4, a5, a6, a7, a8, a9, a10] : List Value).drop 3).take (Try.prog.cellsOf 3)) = some y := hf 3 _ rfl
      rw [ci] at q; exact q
    · have q : ∃ fuel y, DataW.trod enc Try.prog W 0 (fun _ => true) true fuel 3 ((([a0, a1, a2, a3, a4, a5, a6, a7, a8, a9, a10] : List Value).drop 4).take (Try.prog.cellsOf 3)) = some y := hf 4 _ rfl
      rw [ci] at q; exact q
    · have q : ∃ fuel y, DataW.trod enc Try.prog W 0 (fun _ => true) true fuel 3 ((([a0, a1, a2, a3, a4, a5, a6, a7, a8, a9, a10] : List Value).drop 5).take (Try.prog.cellsOf 3)) = some y := hf 5 _ rfl
      rw [ci] at q; exact q
    · have q : ∃ fuel y, DataW.trod enc Try.prog W 0 (fun _ => true) true fuel 3 ((([a0, a1, a2, a3, a4, a5, a6, a7, a8, a9, a10] : List Value).drop 6).take (Try.prog.cellsOf 3)) = some y := hf 6 _ rfl
      rw [ci] at q; exact q
    · have q : ∃ fuel y, DataW.trod enc Try.prog W 0 (fun _ => true) true fuel 3 ((([a0, a1, a2, a3, a4, a5, a6, a7, a8, a9, a10] : List Value).drop 7).take (Try.prog.cellsOf 3)) = some y := hf 7 _ rfl
      rw [ci] at q; exact q
    · have q : ∃ fuel y, DataW.trod enc Try.prog W 0 (fun _ => true) true fuel 3 ((([a0, a1, a2, a3, a4, a5, a6, a7, a8, a9, a10] : List Value).drop 8).take (Try.prog.cellsOf 3)) = some y := hf 8 _ rfl
      rw [ci] at q; exact q
    · have q : ∃ fuel y, DataW.trod enc Try.prog W 0 (fun _ => true) true fuel 22 ((([a0, a1, a2, a3, a4, a5, a6, a7, a8, a9, a10] : List Value).drop 9).take (Try.prog.cellsOf 22)) = some y := hf 9 _ rfl
      rw [cu] at q; exact q
    · have q : ∃ fuel y, DataW.trod enc Try.prog W 0 (fun _ => true) true fuel 22 ((([a0, a1, a2, a3, a4, a5, a6, a7, a8, a9, a10] : List Value).drop 10).take (Try.prog.cellsOf 22)) = some y := hf 10 _ rfl
      rw [cu] at q; exact q
  obtain ⟨z0, z1, z2, z3, z4, z5, z6, z7, z8, z9, z10⟩ := Z
  obtain ⟨x0, rfl, o0⟩ := I a0 z0
  obtain ⟨x1, rfl, o1⟩ := I a1 z1
  obtain ⟨x2, rfl, o2⟩ := I a2 z2
  obtain ⟨x3, rfl, o3⟩ := I a3 z3
  obtain ⟨x4, rfl, o4⟩ := I a4 z4
  obtain ⟨x5, rfl, o5⟩ := I a5 z5
  obtain ⟨x6, rfl, o6⟩ := I a6 z6
  obtain ⟨x7, rfl, o7⟩ := I a7 z7
  obtain ⟨x8, rfl, o8⟩ := I a8 z8
  obtain ⟨x9, rfl, o9⟩ := U a9 z9
  obtain ⟨x10, rfl, o10⟩ := U a10 z10
  exact ⟨⟨x0, x1, x2, x3, x4, x5, x6, x7, x8, x9, x10⟩, rfl, ⟨o0, o1, o2, o3, o4, o5, o6, o7, o8, o9, o10⟩⟩
end Go.Proofs.Ythjdebcjfpokoaa
