/- append of a nil row: the row itself. -/
import Derived.Test.YtdhimlkndpiacaaGreatGAZ
set_option linter.unusedVariables false
namespace Go.Proofs.YtdhimlkndpiacaaGreat
open Go.RowKit Go.Builtin

theorem run_appNil {P : Program} (w : World) (t ty E : TypeId) (ht : P.underlying t = some (.slice E)) (z : Value) (k bytes : Nat) (hin : (P.info? E).map (fun i => (i.zero, i.size, i.bytes)) = some (some z, k, bytes))
    (a : Option Addr) (n c c2 : Nat) (hc : n ≤ c) : (Builtin.append_ #[t, t] ty #[.slice a n c, .slice none 0 c2]).run P w = .ok (.slice a n c) w := by
  obtain ⟨i, hi, hz0, hz1, hz2⟩ := info_parts hin
  cases a with
  | none => simp [Builtin.append_, run_underlying ht, Result.andThen, sizeOf, typeInfo, hi, Builtin.lenOf, Builtin.firstCells, hc]
  | some a => simp [Builtin.append_, run_underlying ht, Result.andThen, sizeOf, typeInfo, hi, Builtin.lenOf, Builtin.firstCells, hc, storeCells]
end Go.Proofs.YtdhimlkndpiacaaGreat
