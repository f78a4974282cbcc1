/- RecordBack answers true for any record, any number, any frame: what is written is read, as far as its format goes; what is decoded, encoded again, is the same frame. No condition. -/
import Derived.Test.YtbklngcocbnijaaRecBack1Z
import Derived.Test.YtbklngcocbnijaaRecBack2Z
import Derived.Test.YtbklngcocbnijaaFrRecordBackZ
set_option linter.unusedVariables false
namespace Go.Proofs.Ytbklngcocbnijaa
open Go.RowKit

theorem recordBack_holds : Rows.RecordBackSaid := by
  refine recordBack.said fun H enc W base v0 v1 v2 d0 d1 d2 p0 p1 p2 h0 h1 h2 => ?_
  obtain ⟨r, a, cap, rfl, ok, hr⟩ := h0.recD
  obtain ⟨v, rfl, _⟩ := h1.i64 Try.underlying3
  obtain ⟨k, n, a2, cap2, ys, rfl, hy, hk, hn, hc⟩ := h2.aframe
  have hlen : ys.length ≤ 140737488355328 := by have := hy.2.1; omega
  refine Calls.mono (R := fun e w' => e = .returned (.bool true) ∧ Touch W w' (fun _ => False)) ?_ (fun e w' h => ⟨h.1, h.2.under (Nat.le_refl _)⟩)
  cases hl : lightB r with
  | false => exact back_bad r a cap v k n a2 cap2 ys W ok hr hk hy hlen (.inl hl)
  | true =>
    by_cases hx : ys.length ≤ 400
    · by_cases hd : decE k n ys = 0
      · exact back_1 r a cap v k n a2 cap2 ys W ok hr hk hy hlen hl hx hd
      · exact back_0 r a cap v k n a2 cap2 ys W ok hr hk hy hlen hl hx hd
    · exact back_bad r a cap v k n a2 cap2 ys W ok hr hk hy hlen (.inr ⟨hl, by omega⟩)
end Go.Proofs.Ytbklngcocbnijaa
