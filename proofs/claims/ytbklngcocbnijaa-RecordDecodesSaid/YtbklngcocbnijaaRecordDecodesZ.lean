/- RecordDecodes answers true for any record, any number, any change of the bytes, any frame: Decode and the reference's Decode tell the same. No condition. -/
import Derived.Test.YtbklngcocbnijaaRecDecLawZ
import Derived.Test.YtbklngcocbnijaaGCZ
import Derived.Test.YtbklngcocbnijaaGAZ
import Derived.Test.YtbklngcocbnijaaFrRecordDecodesZ
set_option linter.unusedVariables false
namespace Go.Proofs.Ytbklngcocbnijaa
open Go.RowKit

theorem recordDecodes_holds : Rows.RecordDecodesSaid := by
  refine recordDecodes.said fun H enc W base v0 v1 v2 v3 v4 v5 v6 d0 d1 d2 d3 d4 d5 d6 p0 p1 p2 p3 p4 p5 p6 h0 h1 h2 h3 h4 h5 h6 => ?_
  obtain ⟨r, a, cap, rfl, ok, hr⟩ := h0.recD
  obtain ⟨v, rfl, _⟩ := h1.i64 Try.underlying3
  obtain ⟨pl, rfl, _⟩ := h2.i64 Try.underlying3
  obtain ⟨x, rfl, hx8⟩ := h3.u8 Try.underlying5
  obtain ⟨cut, rfl, _⟩ := h4.i64 Try.underlying3
  obtain ⟨am, m5, cm, ms, rfl, hm, _, _⟩ := h5.bytes Try.underlying37 Try.underlying5 (by kernel_rfl) (by kernel_rfl)
  obtain ⟨k, n, a2, cap2, ys, rfl, hy, hk, hn, hc⟩ := h6.aframe
  have hlen : ys.length ≤ 140737488355328 := by have := hy.2.1; omega
  refine Calls.mono (R := fun e w' => e = .returned (.bool true) ∧ Touch W w' (fun _ => False)) ?_ (fun e w' h => ⟨h.1, h.2.under (Nat.le_refl _)⟩)
  cases hl : lightB r with
  | false => exact decodes_bad r a cap v pl x cut am m5 cm ms k n a2 cap2 ys W ok hr hm hy hlen hx8 (.inl hl)
  | true =>
    by_cases hx : ys.length ≤ 400
    · by_cases h50 : m5 ≤ 50
      · exact decodes_walk r a cap v pl x cut am m5 cm ms k n a2 cap2 ys W ok hr hm hy hlen hx8 hl hx h50
      · exact decodes_bad r a cap v pl x cut am m5 cm ms k n a2 cap2 ys W ok hr hm hy hlen hx8 (.inr (.inr ⟨hl, hx, by omega⟩))
    · exact decodes_bad r a cap v pl x cut am m5 cm ms k n a2 cap2 ys W ok hr hm hy hlen hx8 (.inr (.inl ⟨hl, by omega⟩))
end Go.Proofs.Ytbklngcocbnijaa
