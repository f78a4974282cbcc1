/- RecordFields answers true for any two records, any number: what its kind has not makes no difference to a record. No condition. -/
import Derived.Test.YtbklngcocbnijaaFieldsBad
import Derived.Test.YtbklngcocbnijaaFields0
import Derived.Test.YtbklngcocbnijaaFields1
import Derived.Test.YtbklngcocbnijaaFields2
import Derived.Test.YtbklngcocbnijaaFields3
import Derived.Test.YtbklngcocbnijaaFields4
import Derived.Test.YtbklngcocbnijaaFields5
import Derived.Test.YtbklngcocbnijaaFields6
import Derived.Test.YtbklngcocbnijaaFrRecordFields
set_option linter.unusedVariables false
namespace Go.Proofs.Ytbklngcocbnijaa
open Go.RowKit

theorem recordFields_holds : Rows.RecordFieldsSaid := by
  refine recordFields.said fun H enc W base v0 v1 v2 d0 d1 d2 p0 p1 p2 h0 h1 h2 => ?_
  obtain ⟨r, a, cap, rfl, ok, hr⟩ := h0.recD
  obtain ⟨q, a2, cap2, rfl, ok2, hr2⟩ := h1.recD
  obtain ⟨v, rfl, _⟩ := h2.i64 Try.underlying3
  refine Calls.mono (R := fun e w' => e = .returned (.bool true) ∧ Touch W w' (fun _ => False)) ?_ (fun e w' h => ⟨h.1, h.2.under (Nat.le_refl _)⟩)
  cases l1 : lightB r with
  | false => exact fields_bad r a cap q a2 cap2 v W ok hr ok2 hr2 (.inl l1)
  | true =>
  cases l2 : lightB q with
  | false => exact fields_bad r a cap q a2 cap2 v W ok hr ok2 hr2 (.inr ⟨l1, l2⟩)
  | true =>
  by_cases n1 : r.kind = 1
  · exact fields_k1 r a cap q a2 cap2 v W ok hr ok2 hr2 l1 l2 n1
  by_cases n2 : r.kind = 2
  · exact fields_k2 r a cap q a2 cap2 v W ok hr ok2 hr2 l1 l2 n2
  by_cases n3 : r.kind = 3
  · exact fields_k3 r a cap q a2 cap2 v W ok hr ok2 hr2 l1 l2 n3
  by_cases n4 : r.kind = 4
  · exact fields_k4 r a cap q a2 cap2 v W ok hr ok2 hr2 l1 l2 n4
  by_cases n5 : r.kind = 5
  · exact fields_k5 r a cap q a2 cap2 v W ok hr ok2 hr2 l1 l2 n5
  by_cases n6 : r.kind = 6
  · exact fields_k6 r a cap q a2 cap2 v W ok hr ok2 hr2 l1 l2 n6
  exact fields_k0 r a cap q a2 cap2 v W ok hr ok2 hr2 l1 l2 n1 n2 n3 n4 n5 n6
end Go.Proofs.Ytbklngcocbnijaa
