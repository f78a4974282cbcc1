/- Bits of whole numbers: what '&' with a mask and '|' of parts that don't overlap come to. -/
import Derived.Test.YtdjkjdeaglimeaaBase
import Derived.Laws.BitsLemmas
set_option linter.unusedVariables false
namespace Go.Proofs.Ytdjkjdeaglimeaa

theorem wraps_i64 (n : Int) (h₀ : 0 ≤ n) (h₁ : n < 2 ^ 63) : IntKind.i64.wrap n = n := by rw [IntKind.wrap_i64]; omega
/-- '&' with a mask, of any number, those below 0 too. -/
theorem mask_i64 (x : Int) (i : Nat) (hi : i ≤ 62) (m : Int) (hm : (2 : Int) ^ i - 1 = m) : bits BinOp.and IntKind.i64 x m = x % 2 ^ i := by
  subst hm
  have hpos : 0 < 2 ^ i := Nat.two_pow_pos i
  have hle : 2 ^ i ≤ 2 ^ 62 := Nat.pow_le_pow_right (by omega) hi
  have h62 : (2 : Nat) ^ 62 = 4611686018427387904 := by decide
  have h64 : (2 : Nat) ^ 64 = 18446744073709551616 := by decide
  have hc : ((2 : Int) ^ i - 1) = ((2 ^ i - 1 : Nat) : Int) := by
    rw [Int.natCast_sub hpos]; simp
  have hb : (2 ^ i - 1) % 2 ^ 64 = 2 ^ i - 1 := Nat.mod_eq_of_lt (by omega)
  obtain ⟨a, ha⟩ : ∃ a : Nat, x % 18446744073709551616 = a := ⟨(x % 18446744073709551616).toNat, by omega⟩
  have e1 : (BitVec.ofInt IntKind.i64.bits x).toNat = a := by
    rw [BitVec.toNat_ofInt]; show (x % ((2 ^ 64 : Nat) : Int)).toNat = a
    rw [h64]; omega
  have e2 : (BitVec.ofInt IntKind.i64.bits ((2 : Int) ^ i - 1)).toNat = 2 ^ i - 1 := by
    rw [hc, BitVec.ofInt_natCast, BitVec.toNat_ofNat]; exact hb
  have e3 : bits BinOp.and IntKind.i64 x ((2 : Int) ^ i - 1) = IntKind.i64.wrap (((a &&& (2 ^ i - 1) : Nat)) : Int) := by
    simp only [bits, BitVec.toNat_and, e1, e2]
  rw [e3, Nat.and_two_pow_sub_one_eq_mod]
  have hlt : a % 2 ^ i < 2 ^ i := Nat.mod_lt _ hpos
  rw [wraps_i64 _ (by omega) (by have : (2 : Int) ^ 63 = 9223372036854775808 := by decide
                                 omega)]
  have hd : (2 ^ i : Nat) ∣ 2 ^ 64 := Nat.pow_dvd_pow 2 (by omega)
  have hx : x = (a : Int) + 18446744073709551616 * (x / 18446744073709551616) := by omega
  have : x % (2 : Int) ^ i = (a : Int) % (2 : Int) ^ i := by
    obtain ⟨q, hq⟩ := hd
    have hq' : (18446744073709551616 : Int) = (2 : Int) ^ i * q := by
      have : ((2 ^ 64 : Nat) : Int) = ((2 ^ i * q : Nat) : Int) := by rw [hq]
      rw [h64] at this
      simpa using this
    conv => lhs; rw [hx, hq', Int.mul_assoc]
    exact Int.add_mul_emod_self_left _ _ _
  rw [this]; simp
theorem mask_u8 (x : Int) (i : Nat) (hi : i ≤ 8) (m : Int) (hm : (2 : Int) ^ i - 1 = m) (h0 : 0 ≤ x) (h1 : x < 256) : bits BinOp.and IntKind.u8 x m = x % 2 ^ i := by
  subst hm; exact bits_mask .u8 8 (by decide) wraps_u8 i hi x h0 h1
theorem or_i64 (x y : Int) (i : Nat) (h0 : 0 ≤ x) (hx : x % 2 ^ i = 0) (h1 : x < 9223372036854775808) (hy : 0 ≤ y) (hy1 : y < 2 ^ i) (hy2 : y < 9223372036854775808) : bits BinOp.or IntKind.i64 x y = x + y :=
  bits_join .i64 63 (by decide) wraps_i64 i x y h0 hx (by omega) hy hy1 (by omega)
theorem or_u8_low (a b : Nat) (ha : a < 16) (hb : b < 16) : bits BinOp.or IntKind.u8 (a : Int) ((b * 16 : Nat) : Int) = ((a + b * 16 : Nat) : Int) := by
  rw [(bits_nat .u8 8 (by decide) wraps_u8 a (b * 16) (by omega) (by omega)).2, Nat.or_comm]
  have := bits_join .u8 8 (by decide) wraps_u8 4 ((b * 16 : Nat) : Int) (a : Int) (by omega) (by omega) (by omega) (by omega) (by omega) (by omega)
  rw [(bits_nat .u8 8 (by decide) wraps_u8 (b * 16) a (by omega) (by omega)).2] at this
  omega
end Go.Proofs.Ytdjkjdeaglimeaa
