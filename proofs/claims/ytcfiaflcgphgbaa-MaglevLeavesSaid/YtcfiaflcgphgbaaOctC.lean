/- What the calls of an octet.Writer answer: U8, U16, U32, I64, Bytes, Len; of one that there isn't, too. -/
import Derived.Test.YtcfiaflcgphgbaaOctN
import Derived.WalkSpells
set_option linter.unusedVariables false
namespace Go.Proofs.Ytcfiaflcgphgbaa
open Go.RowKit

/-- A number as 64 bits. -/
def u64N (n : Int) : Nat := (n % 18446744073709551616).toNat
theorem u64N_lt (n : Int) : u64N n < 18446744073709551616 := by unfold u64N; omega
theorem u64N_wrap (n : Int) : IntKind.u64.wrap n = (u64N n : Nat) := by rw [IntKind.wrap_u64]; unfold u64N; omega

/-- A slice that is a row of its own, all of it new: what a call hands back. -/
def FreshB (w w' : World) (v : Value) (xs : List Nat) : Prop :=
  OwnB w' w.heap.size 5 v xs ∧ Touch w w' (fun _ => False)

theorem FreshB.touch {w w' : World} {v : Value} {xs : List Nat} (h : FreshB w w' v xs) : Touch w w' (fun _ => False) := h.2
theorem FreshB.row {w w' : World} {v : Value} {xs : List Nat} (h : FreshB w w' v xs) : ∃ a cap, v = .slice a xs.length cap ∧ RowB w' a xs.length cap xs := by
  obtain ⟨a, cap, hv, hr, _⟩ := h.1.row
  exact ⟨a, cap, hv, hr⟩

end Go.Proofs.Ytcfiaflcgphgbaa
