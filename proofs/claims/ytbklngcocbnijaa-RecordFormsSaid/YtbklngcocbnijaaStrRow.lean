/- A row of bytes as a string. -/
import Derived.Test.YtbklngcocbnijaaBytes
set_option linter.unusedVariables false
namespace Go.Proofs.Ytbklngcocbnijaa
open Go.RowKit

theorem str_row {w : World} {a : Option Addr} {n c : Nat} {xs : List Nat} (h : RowB w a n c xs) : Sem.run Try.prog (convert 37 9 (.slice a n c)) w = .ok (.string (strB xs)) w :=
  run_string_of (P := Try.prog) h 37 9 5 Try.underlying37 Try.underlying5 Try.underlying9
end Go.Proofs.Ytbklngcocbnijaa
