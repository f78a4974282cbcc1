/- MigrateFrames answers true for any record, any numbers, any frame: Frame and the reference's tell the same of what the reference writes, and of any frame. No condition. -/
import Derived.Test.YtbklngcocbnijaaMigFrLawZ
import Derived.Test.YtbklngcocbnijaaGCZ
import Derived.Test.YtbklngcocbnijaaFrMigrateFramesZ
set_option linter.unusedVariables false
namespace Go.Proofs.Ytbklngcocbnijaa
open Go.RowKit

theorem migrateFrames_holds : Rows.MigrateFramesSaid := by
  refine migrateFrames.said fun H enc W base v0 v1 v2 v3 d0 d1 d2 d3 p0 p1 p2 p3 h0 h1 h2 h3 => ?_
  obtain ⟨r, a, cap, rfl, ok, hr⟩ := h0.recD
  obtain ⟨v, rfl, _⟩ := h1.i64 Try.underlying3
  obtain ⟨t, rfl, _⟩ := h2.i64 Try.underlying3
  obtain ⟨k, n, a2, cap2, ys, rfl, hy, hk, hn, hc⟩ := h3.aframe
  have hlen : ys.length ≤ 140737488355328 := by have := hy.2.1; omega
  refine Calls.mono (R := fun e w' => e = .returned (.bool true) ∧ Touch W w' (fun _ => False)) ?_ (fun e w' h => ⟨h.1, h.2.under (Nat.le_refl _)⟩)
  cases hl : lightM r with
  | false => exact mframes_bad r a cap v t k n a2 cap2 ys W ok hr hk hy hlen (.inl hl)
  | true =>
    by_cases hx : ys.length ≤ 400
    · exact mframes_walk r a cap v t k n a2 cap2 ys W ok hr hk hy hlen hl hx
    · exact mframes_bad r a cap v t k n a2 cap2 ys W ok hr hk hy hlen (.inr ⟨hl, by omega⟩)
end Go.Proofs.Ytbklngcocbnijaa
