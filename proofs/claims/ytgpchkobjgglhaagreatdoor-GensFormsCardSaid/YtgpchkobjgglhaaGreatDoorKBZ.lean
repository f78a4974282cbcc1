/- KB: Bits, IpRd, IpFields. -/
import Derived.Test.YtgpchkobjgglhaaGreatDoorGAZ
import Derived.Laws.BitsLemmas
import Derived.Test.YtgpchkobjgglhaaGreatDoorGBZ
section
/- Bits of whole numbers: what '&' with a mask and '|' of parts that don't overlap come to. -/
set_option linter.unusedVariables false
namespace Go.Proofs.YtgpchkobjgglhaaGreatDoor

theorem wraps_i64 (n : Int) (h₀ : 0 ≤ n) (h₁ : n < 2 ^ 63) : IntKind.i64.wrap n = n := by rw [IntKind.wrap_i64]; omega
/-- '&' with a mask, of any number, those below 0 too. -/
theorem mask_i64 (x : Int) (i : Nat) (hi : i ≤ 62) (m : Int) (hm : (2 : Int) ^ i - 1 = m) : bits BinOp.and IntKind.i64 x m = x % 2 ^ i := by
  subst hm
  have hpos : 0 < 2 ^ i := Nat.two_pow_pos i
  have hle : 2 ^ i ≤ 2 ^ 62 := Nat.pow_le_pow_right (by omega) hi
  have h62 : (2 : Nat) ^ 62 = 4611686018427387904 := by decide
  have h64 : (2 : Nat) ^ 64 = 18446744073709551616 := by decide
  have hc : ((2 : Int) ^ i - 1) = ((2 ^ i - 1 : Nat) : Int) := by
    rw [Int.natCast_sub hpos]; simp
  have hb : (2 ^ i - 1) % 2 ^ 64 = 2 ^ i - 1 := Nat.mod_eq_of_lt (by omega)
  obtain ⟨a, ha⟩ : ∃ a : Nat, x % 18446744073709551616 = a := ⟨(x % 18446744073709551616).toNat, by omega⟩
  have e1 : (BitVec.ofInt IntKind.i64.bits x).toNat = a := by
    rw [BitVec.toNat_ofInt]; show (x % ((2 ^ 64 : Nat) : Int)).toNat = a
    rw [h64]; omega
  have e2 : (BitVec.ofInt IntKind.i64.bits ((2 : Int) ^ i - 1)).toNat = 2 ^ i - 1 := by
    rw [hc, BitVec.ofInt_natCast, BitVec.toNat_ofNat]; exact hb
  have e3 : bits BinOp.and IntKind.i64 x ((2 : Int) ^ i - 1) = IntKind.i64.wrap (((a &&& (2 ^ i - 1) : Nat)) : Int) := by
    simp only [bits, BitVec.toNat_and, e1, e2]
  rw [e3, Nat.and_two_pow_sub_one_eq_mod]
  have hlt : a % 2 ^ i < 2 ^ i := Nat.mod_lt _ hpos
  rw [wraps_i64 _ (by omega) (by have : (2 : Int) ^ 63 = 9223372036854775808 := by decide
                                 omega)]
  have hd : (2 ^ i : Nat) ∣ 2 ^ 64 := Nat.pow_dvd_pow 2 (by omega)
  have hx : x = (a : Int) + 18446744073709551616 * (x / 18446744073709551616) := by omega
  have : x % (2 : Int) ^ i = (a : Int) % (2 : Int) ^ i := by
    obtain ⟨q, hq⟩ := hd
    have hq' : (18446744073709551616 : Int) = (2 : Int) ^ i * q := by
      have : ((2 ^ 64 : Nat) : Int) = ((2 ^ i * q : Nat) : Int) := by rw [hq]
      rw [h64] at this
      simpa using this
    conv => lhs; rw [hx, hq', Int.mul_assoc]
    exact Int.add_mul_emod_self_left _ _ _
  rw [this]; simp
theorem mask_u8 (x : Int) (i : Nat) (hi : i ≤ 8) (m : Int) (hm : (2 : Int) ^ i - 1 = m) (h0 : 0 ≤ x) (h1 : x < 256) : bits BinOp.and IntKind.u8 x m = x % 2 ^ i := by
  subst hm; exact bits_mask .u8 8 (by decide) wraps_u8 i hi x h0 h1
theorem or_i64 (x y : Int) (i : Nat) (h0 : 0 ≤ x) (hx : x % 2 ^ i = 0) (h1 : x < 9223372036854775808) (hy : 0 ≤ y) (hy1 : y < 2 ^ i) (hy2 : y < 9223372036854775808) : bits BinOp.or IntKind.i64 x y = x + y :=
  bits_join .i64 63 (by decide) wraps_i64 i x y h0 hx (by omega) hy hy1 (by omega)
theorem or_u8_low (a b : Nat) (ha : a < 16) (hb : b < 16) : bits BinOp.or IntKind.u8 (a : Int) ((b * 16 : Nat) : Int) = ((a + b * 16 : Nat) : Int) := by
  rw [(bits_nat .u8 8 (by decide) wraps_u8 a (b * 16) (by omega) (by omega)).2, Nat.or_comm]
  have := bits_join .u8 8 (by decide) wraps_u8 4 ((b * 16 : Nat) : Int) (a : Int) (by omega) (by omega) (by omega) (by omega) (by omega) (by omega)
  rw [(bits_nat .u8 8 (by decide) wraps_u8 (b * 16) a (by omega) (by omega)).2] at this
  omega
end Go.Proofs.YtgpchkobjgglhaaGreatDoor

end

section
/- Readers of few bytes, byte by byte; the bytes of a row by their places. -/
set_option linter.unusedVariables false
namespace Go.Proofs.YtgpchkobjgglhaaGreatDoor
open Go.RowKit

/-- The byte at a place, 0 behind the end. -/
def gb (xs : List Nat) (i : Nat) : Nat := xs.getD i 0
theorem gb_lt (xs : List Nat) (h : ∀ x ∈ xs, x < 256) (i : Nat) : gb xs i < 256 := by
  unfold gb
  by_cases hi : i < xs.length
  · rw [List.getD_eq_getElem?_getD, List.getElem?_eq_getElem hi]; exact h _ (List.getElem_mem hi)
  · rw [List.getD_eq_getElem?_getD, List.getElem?_eq_none (by omega)]; simp
theorem gb_get (xs : List Nat) (i : Nat) (h : i < xs.length) : gb xs i = xs[i] := by
  unfold gb; rw [List.getD_eq_getElem?_getD, List.getElem?_eq_getElem h]; rfl
theorem take_gb (xs : List Nat) : ∀ k, k ≤ xs.length → xs.take k = (List.range k).map (gb xs)
  | 0, _ => by simp
  | k + 1, h => by
    rw [List.take_succ_eq_append_getElem (by omega), take_gb xs k (by omega), List.range_succ, List.map_append, ← gb_get xs k (by omega)]; rfl
theorem drop_gb (xs : List Nat) (j k : Nat) (h : j + k ≤ xs.length) : (xs.drop j).take k = (List.range k).map (fun i => gb xs (j + i)) := by
  rw [take_gb _ k (by simp; omega)]
  apply List.map_congr_left
  intro i hi
  simp at hi
  rw [gb_get _ _ (by simp; omega), gb_get _ _ (by omega), List.getElem_drop]
theorem RowB.gb {w : World} {b off len cap : Nat} {xs : List Nat} (h : RowB w (some ⟨b, off, none⟩) len cap xs) (i : Nat) (hi : i < len) : w.cell? ⟨b, off + i, none⟩ = some (.int .u8 (gb xs i : Nat)) := by
  obtain ⟨h1, h2, h3, h6, h4, h5⟩ := h
  rcases h5 with h5 | ⟨b', off', ha, hc⟩
  · omega
  · simp only [Option.some.injEq, Addr.mk.injEq] at ha
    obtain ⟨rfl, rfl, _⟩ := ha
    rw [hc i (by omega), gb_get _ _ (by omega)]
theorem RowB.some {w : World} {a : Option Addr} {len cap : Nat} {xs : List Nat} (h : RowB w a len cap xs) (h0 : 0 < len) : ∃ b off, a = .some ⟨b, off, none⟩ := by
  rcases h.2.2.2.2.2 with h5 | ⟨b, off, ha, _⟩
  · omega
  · exact ⟨b, off, ha⟩

theorem RowB.dropNe {w : World} {b off len cap : Nat} {xs : List Nat} (h : RowB w (.some ⟨b, off, none⟩) len cap xs) (k : Nat) (hk : k ≤ len) (hc : ¬ cap = k) : RowB w (.some ⟨b, off + k, none⟩) (len - k) (cap - k) (xs.drop k) := by
  have := h.drop k hk
  rw [if_neg hc] at this
  exact this
theorem RowB.dropEq {w : World} {b off len k : Nat} {xs : List Nat} (h : RowB w (.some ⟨b, off, none⟩) len k xs) (hk : k ≤ len) : RowB w (.some ⟨b, off, none⟩) (len - k) 0 (xs.drop k) := by
  have := h.drop k hk
  rw [if_pos rfl, Nat.sub_self] at this
  exact this
end Go.Proofs.YtgpchkobjgglhaaGreatDoor

end

section
/- What the first bytes of a header say. -/
set_option linter.unusedVariables false
namespace Go.Proofs.YtgpchkobjgglhaaGreatDoor
open Go.RowKit

/-- A header's parts. -/
structure Hdr where
  ihl : Nat
  tos : Nat
  len : Nat
  id : Nat
  flags : Nat
  off : Nat
  ttl : Nat
  proto : Nat
  sum : Nat
  src : Nat
  dst : Nat
/-- .. as the program has them. -/
def hv (h : Hdr) : Value := .agg #[.int .i64 (h.ihl : Nat), .int .i64 (h.tos : Nat), .int .i64 (h.len : Nat), .int .i64 (h.id : Nat), .int .i64 (h.flags : Nat), .int .i64 (h.off : Nat), .int .i64 (h.ttl : Nat), .int .i64 (h.proto : Nat), .int .i64 (h.sum : Nat), .int .u32 (h.src : Nat), .int .u32 (h.dst : Nat)]
/-- A header's cells. -/
def hcs (h : Hdr) : Array Value := #[.int .i64 (h.ihl : Nat), .int .i64 (h.tos : Nat), .int .i64 (h.len : Nat), .int .i64 (h.id : Nat), .int .i64 (h.flags : Nat), .int .i64 (h.off : Nat), .int .i64 (h.ttl : Nat), .int .i64 (h.proto : Nat), .int .i64 (h.sum : Nat), .int .u32 (h.src : Nat), .int .u32 (h.dst : Nat)]
/-- .. cell by cell. -/
theorem cellsH {w : World} {B : Nat} {o0 o1 o2 o3 o4 o5 o6 o7 o8 o9 o10 : Value} {T : TypeId} (hb : w.heap[B]? = some (.cells #[o0, o1, o2, o3, o4, o5, o6, o7, o8, o9, o10] T (0, 0))) (v0 v1 v2 v3 v4 v5 v6 v7 v8 v9 v10 : Value) :
    (((((((((((w.setCell ⟨B, 0, none⟩ v0).setCell ⟨B, 1, none⟩ v1).setCell ⟨B, 2, none⟩ v2).setCell ⟨B, 3, none⟩ v3).setCell ⟨B, 4, none⟩ v4).setCell ⟨B, 5, none⟩ v5).setCell ⟨B, 6, none⟩ v6).setCell ⟨B, 7, none⟩ v7).setCell ⟨B, 8, none⟩ v8).setCell ⟨B, 9, none⟩ v9).setCell ⟨B, 10, none⟩ v10).heap[B]? = some (.cells #[v0, v1, v2, v3, v4, v5, v6, v7, v8, v9, v10] T (0, 0)) := by
  have := (heap_setCell_same _ B 10 _ _ v10 (heap_setCell_same _ B 9 _ _ v9 (heap_setCell_same _ B 8 _ _ v8 (heap_setCell_same _ B 7 _ _ v7 (heap_setCell_same _ B 6 _ _ v6 (heap_setCell_same _ B 5 _ _ v5 (heap_setCell_same _ B 4 _ _ v4 (heap_setCell_same _ B 3 _ _ v3 (heap_setCell_same _ B 2 _ _ v2 (heap_setCell_same _ B 1 _ _ v1 (heap_setCell_same _ B 0 _ _ v0 hb)))))))))))
  simpa using this
theorem touchH (w : World) (B : Nat) (v0 v1 v2 v3 v4 v5 v6 v7 v8 v9 v10 : Value) : Touch w (((((((((((w.setCell ⟨B, 0, none⟩ v0).setCell ⟨B, 1, none⟩ v1).setCell ⟨B, 2, none⟩ v2).setCell ⟨B, 3, none⟩ v3).setCell ⟨B, 4, none⟩ v4).setCell ⟨B, 5, none⟩ v5).setCell ⟨B, 6, none⟩ v6).setCell ⟨B, 7, none⟩ v7).setCell ⟨B, 8, none⟩ v8).setCell ⟨B, 9, none⟩ v9).setCell ⟨B, 10, none⟩ v10) (fun k => k = B) := by
  have h := Touch.refl w (fun k => k = B)
  exact (((((((((((h.into 0 v0).into 1 v1).into 2 v2).into 3 v3).into 4 v4).into 5 v5).into 6 v6).into 7 v7).into 8 v8).into 9 v9).into 10 v10)
/-- The header that bytes say. -/
def hdr (xs : List Nat) : Hdr := ⟨gb xs 0 % 16, gb xs 1, gb xs 2 * 256 + gb xs 3, gb xs 4 * 256 + gb xs 5, gb xs 6 / 32, gb xs 6 % 32 * 256 + gb xs 7, gb xs 8, gb xs 9, gb xs 10 * 256 + gb xs 11, beN [gb xs 12, gb xs 13, gb xs 14, gb xs 15], beN [gb xs 16, gb xs 17, gb xs 18, gb xs 19]⟩
theorem twenty (xs : List Nat) (h : 20 ≤ xs.length) : xs.take 20 = [gb xs 0, gb xs 1, gb xs 2, gb xs 3, gb xs 4, gb xs 5, gb xs 6, gb xs 7, gb xs 8, gb xs 9, gb xs 10, gb xs 11, gb xs 12, gb xs 13, gb xs 14, gb xs 15, gb xs 16, gb xs 17, gb xs 18, gb xs 19] := take_gb xs 20 h
theorem and15 (x : Nat) : bits BinOp.and IntKind.i64 (x : Int) 15 = ((x % 16 : Nat) : Int) := by
  rw [mask_i64 _ 4 (by decide) 15 rfl]; omega
theorem and8191 (x : Nat) : bits BinOp.and IntKind.i64 (x : Int) 8191 = ((x % 8192 : Nat) : Int) := by
  rw [mask_i64 _ 13 (by decide) 8191 rfl]; omega

end Go.Proofs.YtgpchkobjgglhaaGreatDoor

end
