/- What the other functions of package sum answer: Fold, Net, Fix, Crc, Mix, and the reference's own. -/
import Derived.Test.YtgmimdnebgncoaaSumWalkZ
set_option linter.unusedVariables false
namespace Go.Proofs.Ytgmimdnebgncoaa
open Go.RowKit

theorem xor_ones16 (a : Nat) (h : a < 65536) : 65535 ^^^ a = 65535 - a := by
  have e : 65535 ^^^ a = (BitVec.allOnes 16 ^^^ BitVec.ofNat 16 a).toNat := by
    rw [BitVec.toNat_xor, BitVec.toNat_allOnes, BitVec.toNat_ofNat, Nat.mod_eq_of_lt h]
  rw [e, BitVec.allOnes_xor, BitVec.toNat_not, BitVec.toNat_ofNat, Nat.mod_eq_of_lt h]
theorem xor_ones32 (a : Nat) (h : a < 4294967296) : 4294967295 ^^^ a = 4294967295 - a := by
  have e : 4294967295 ^^^ a = (BitVec.allOnes 32 ^^^ BitVec.ofNat 32 a).toNat := by
    rw [BitVec.toNat_xor, BitVec.toNat_allOnes, BitVec.toNat_ofNat, Nat.mod_eq_of_lt h]
  rw [e, BitVec.allOnes_xor, BitVec.toNat_not, BitVec.toNat_ofNat, Nat.mod_eq_of_lt h]
theorem not16 (s : Int) (h : 0 ≤ s) (h2 : s ≤ 65535) : bits BinOp.xor IntKind.u16 IntKind.u16.max s = 65535 - s := by
  obtain ⟨a, rfl⟩ := Int.eq_ofNat_of_zero_le h
  have e : IntKind.u16.max = ((65535 : Nat) : Int) := rfl
  rw [e, u16_xor_nat 65535 a (by omega) (by omega), xor_ones16 a (by omega)]
  omega
theorem not32 (a : Nat) (h : a < 4294967296) : bits BinOp.xor IntKind.u32 IntKind.u32.max (a : Int) = 4294967295 - a := by
  have e : IntKind.u32.max = ((4294967295 : Nat) : Int) := rfl
  rw [e, u32_xor_nat 4294967295 a (by omega) (by omega), xor_ones32 a (by omega)]
  omega

end Go.Proofs.Ytgmimdnebgncoaa
