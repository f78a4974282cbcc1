/- What the other functions of package sum answer: Fold, Net, Fix, Crc, Mix, and the reference's own. -/
import Derived.Test.YtibpnlhdpdfhiaaDoorSumWalkZ
set_option linter.unusedVariables false
namespace Go.Proofs.YtibpnlhdpdfhiaaDoor
open Go.RowKit

theorem xor_ones16 (a : Nat) (h : a < 65536) : 65535 ^^^ a = 65535 - a := by
  have e : 65535 ^^^ a = (BitVec.allOnes 16 ^^^ BitVec.ofNat 16 a).toNat := by
    rw [BitVec.toNat_xor, BitVec.toNat_allOnes, BitVec.toNat_ofNat, Nat.mod_eq_of_lt h]
  rw [e, BitVec.allOnes_xor, BitVec.toNat_not, BitVec.toNat_ofNat, Nat.mod_eq_of_lt h]
theorem xor_ones32 (a : Nat) (h : a < 4294967296) : 4294967295 ^^^ a = 4294967295 - a := by
  have e : 4294967295 ^^^ a = (BitVec.allOnes 32 ^^^ BitVec.ofNat 32 a).toNat := by
    rw [BitVec.toNat_xor, BitVec.toNat_allOnes, BitVec.toNat_ofNat, Nat.mod_eq_of_lt h]
  rw [e, BitVec.allOnes_xor, BitVec.toNat_not, BitVec.toNat_ofNat, Nat.mod_eq_of_lt h]
theorem not16 (s : Int) (h : 0 ≤ s) (h2 : s ≤ 65535) : bits BinOp.xor IntKind.u16 IntKind.u16.max s = 65535 - s := by
  obtain ⟨a, rfl⟩ := Int.eq_ofNat_of_zero_le h
  have e : IntKind.u16.max = ((65535 : Nat) : Int) := rfl
  rw [e, u16_xor_nat 65535 a (by omega) (by omega), xor_ones16 a (by omega)]
  omega
theorem not32 (a : Nat) (h : a < 4294967296) : bits BinOp.xor IntKind.u32 IntKind.u32.max (a : Int) = 4294967295 - a := by
  have e : IntKind.u32.max = ((4294967295 : Nat) : Int) := rfl
  rw [e, u32_xor_nat 4294967295 a (by omega) (by omega), xor_ones32 a (by omega)]
  omega

set_option maxHeartbeats 1000000 in
theorem crc_same (a : Option Addr) (len cap : Nat) (xs : List Nat) (w : World) (hr : RowB w a len cap xs) :
    Calls Tryd.prog 73 #[.slice a len cap] w fun e w' => e = .returned (.int .u32 (crcF xs)) ∧ w' = w := by
  obtain ⟨hl, hlc, hcm, hlm, hx, hc⟩ := hr
  have HL := Lib.hid hl
  clear hl
  have HX := Lib.hid hx
  clear hx
  have hs : IntKind.u32.signed = false := rfl
  go_enter Tryd.func73, Tryd.ntmps73
  go_wp2
  go_loop [3, 9] (fun s i => ∃ (k c : Nat), k ≤ len ∧ c < 4294967296 ∧ i = .int .i64 k ∧ s = .int .u32 c ∧ crcAll c (xs.drop k) = crcAll 4294967295 xs) (fun _ i => len - (intOf i).toNat)
  case atStart => exact ⟨0, 4294967295, Nat.zero_le _, by omega, rfl, rfl, rfl⟩
  case round =>
    obtain ⟨k, c, hk, hcl, rfl, rfl, he⟩ := hrel
    have HE := Lib.hid he
    clear he
    by_cases hlt : k < len
    · obtain h0 | ⟨b, off, rfl, hcell⟩ := hc
      · omega
      · have hkx : k < xs.length := by rw [HL.out]; exact hlt
        have c0 := hcell k hkx
        clear hcell
        have hb : xs[k] < 256 := HX.out _ (List.getElem_mem hkx)
        have HS := Lib.hid (drop_cons hkx)
        generalize xs[k] = x at *
        have hxo := u32_xor_nat c x hcl (by omega)
        have hlt' : (k : Int) < len := by omega
        go_wp2
        go_loop [3, 17] (fun s i => ∃ (j d : Nat), j ≤ 8 ∧ d < 4294967296 ∧ i = .int .i64 j ∧ s = .int .u32 d ∧ crcBits (8 - j) d = crcByte c x) (fun _ i => 8 - (intOf i).toNat)
        case atStart => exact ⟨0, c ^^^ x, Nat.zero_le _, xor_lt32 _ _ hcl (by omega), rfl, rfl, rfl⟩
        case round =>
          obtain ⟨j, d, hj, hd, rfl, rfl, he⟩ := hrel
          have HJ := Lib.hid he
          clear he
          by_cases hj8 : j < 8
          · have hand : bits BinOp.and IntKind.u32 (d : Int) 1 = ((d % 2 : Nat) : Int) := by
              have e := u32_and_nat d 1 hd (by omega)
              rw [Nat.and_one_is_mod] at e; exact e
            have hm : IntKind.u32.wrap (((d % 2 : Nat) : Int) * 2197175160) = ((d % 2 * 2197175160 : Nat) : Int) := by
              rw [IntKind.wrap_u32]; omega
            have hx2 : Hid (bits BinOp.xor IntKind.u32 ((d : Int) / 2) ((d : Int) % 2 * 2197175160) = ((crcBit d : Nat) : Int)) := Lib.hid (by
              have e := u32_xor_nat (d / 2) (d % 2 * 2197175160) (by omega) (by omega)
              simpa [crcBit] using e)
            have hdl := crcBit_lt d hd
            have HB : Hid (crcBits (8 - (j + 1)) (crcBit d) = crcByte c x) := Lib.hid (by
              have e : 8 - j = (8 - (j + 1)) + 1 := by omega
              rw [← HJ.out, e]; rfl)
            go_wp2
            rw [hx2.out]
            exact ⟨⟨j + 1, crcBit d, by omega, hdl, by go_num, rfl, HB.out⟩, by simp [intOf]; omega⟩
          · obtain rfl : j = 8 := by omega
            have hd2 : d = crcByte c x := HJ.out
            have HD := Lib.hid hd2
            clear hd2
            go_wp2
            have HC : Hid (crcAll d (List.drop (k + 1) xs) = crcAll 4294967295 xs) := Lib.hid (by
              rw [HD.out, ← crcAll_cons, ← HS.out]; exact HE.out)
            exact ⟨⟨k + 1, d, by omega, hd, by go_num, rfl, HC.out⟩, by simp [intOf]; omega⟩
    · have hk' : k = len := by omega
      have hn := not32 c hcl
      have HF : Hid (crcF xs = 4294967295 - (c : Int)) := Lib.hid (by
        unfold crcF; rw [← HE.out, List.drop_of_length_le (by rw [HL.out]; omega)]; rfl)
      clear hk'
      go_wp2
      go_ret
      rw [HF.out]
      exact ⟨rfl, rfl⟩

theorem crc_any (a : Option Addr) (len cap : Nat) (xs : List Nat) (w : World) (hr : RowB w a len cap xs) :
    Calls Tryd.prog 73 #[.slice a len cap] w fun e w' => e = .returned (.int .u32 (crcF xs)) ∧ ∃ n, w' = w.drewN n :=
  (crc_same a len cap xs w hr).mono fun _ _ ⟨he, hw⟩ => ⟨he, 0, hw⟩

set_option maxHeartbeats 1000000 in
theorem rcrc_same (a : Option Addr) (len cap : Nat) (xs : List Nat) (w : World) (hr : RowB w a len cap xs) :
    Calls Tryd.prog 45 #[.slice a len cap] w fun e w' => e = .returned (.int .u32 (crcF xs)) ∧ w' = w := by
  obtain ⟨hl, hlc, hcm, hlm, hx, hc⟩ := hr
  have HL := Lib.hid hl
  clear hl
  have HX := Lib.hid hx
  clear hx
  have hs : IntKind.u32.signed = false := rfl
  go_enter Tryd.func45, Tryd.ntmps45
  go_wp2
  go_loop [3, 8] (fun s i => ∃ (k c : Nat), k ≤ len ∧ c < 4294967296 ∧ i = .int .i64 k ∧ s = .int .u32 c ∧ crcAll c (xs.drop k) = crcAll 4294967295 xs) (fun _ i => len - (intOf i).toNat)
  case atStart => exact ⟨0, 4294967295, Nat.zero_le _, by omega, rfl, rfl, rfl⟩
  case round =>
    obtain ⟨k, c, hk, hcl, rfl, rfl, he⟩ := hrel
    have HE := Lib.hid he
    clear he
    by_cases hlt : k < len
    · obtain h0 | ⟨b, off, rfl, hcell⟩ := hc
      · omega
      · have hkx : k < xs.length := by rw [HL.out]; exact hlt
        have c0 := hcell k hkx
        clear hcell
        have hb : xs[k] < 256 := HX.out _ (List.getElem_mem hkx)
        have HS := Lib.hid (drop_cons hkx)
        generalize xs[k] = x at *
        have hxo := u32_xor_nat c x hcl (by omega)
        have hlt' : (k : Int) < len := by omega
        go_wp2
        go_loop [3, 16] (fun s i => ∃ (j d : Nat), j ≤ 8 ∧ d < 4294967296 ∧ i = .int .i64 j ∧ s = .int .u32 d ∧ crcBits (8 - j) d = crcByte c x) (fun _ i => 8 - (intOf i).toNat)
        case atStart => exact ⟨0, c ^^^ x, Nat.zero_le _, xor_lt32 _ _ hcl (by omega), rfl, rfl, rfl⟩
        case round =>
          obtain ⟨j, d, hj, hd, rfl, rfl, he⟩ := hrel
          have HJ := Lib.hid he
          clear he
          by_cases hj8 : j < 8
          · have hand : bits BinOp.and IntKind.u32 (d : Int) 1 = ((d % 2 : Nat) : Int) := by
              have e := u32_and_nat d 1 hd (by omega)
              rw [Nat.and_one_is_mod] at e; exact e
            have hdl := crcBit_lt d hd
            have HB : Hid (crcBits (8 - (j + 1)) (crcBit d) = crcByte c x) := Lib.hid (by
              have e : 8 - j = (8 - (j + 1)) + 1 := by omega
              rw [← HJ.out, e]; rfl)
            by_cases h1 : d % 2 = 1
            · have ht : (((d : Int) % 2) == 1) = true := beq_iff_eq.2 (by omega)
              have hx2 : Hid (bits BinOp.xor IntKind.u32 ((d : Int) / 2) 2197175160 = ((crcBit d : Nat) : Int)) := Lib.hid (by
                have e := u32_xor_nat (d / 2) 2197175160 (by omega) (by omega)
                simpa [crcBit, h1] using e)
              clear h1
              go_wp2
              rw [hx2.out]
              exact ⟨⟨j + 1, crcBit d, by omega, hdl, by go_num, rfl, HB.out⟩, by simp [intOf]; omega⟩
            · have ht : (((d : Int) % 2) == 1) = false := beq_eq_false_iff_ne.2 (by omega)
              have hx2 : Hid ((d : Int) / 2 = ((crcBit d : Nat) : Int)) := Lib.hid (by
                have e : d % 2 = 0 := by omega
                simp [crcBit, e])
              clear h1
              go_wp2
              rw [hx2.out]
              exact ⟨⟨j + 1, crcBit d, by omega, hdl, by go_num, rfl, HB.out⟩, by simp [intOf]; omega⟩
          · obtain rfl : j = 8 := by omega
            have hd2 : d = crcByte c x := HJ.out
            have HD := Lib.hid hd2
            clear hd2
            go_wp2
            have HC : Hid (crcAll d (List.drop (k + 1) xs) = crcAll 4294967295 xs) := Lib.hid (by
              rw [HD.out, ← crcAll_cons, ← HS.out]; exact HE.out)
            exact ⟨⟨k + 1, d, by omega, hd, by go_num, rfl, HC.out⟩, by simp [intOf]; omega⟩
    · have hk' : k = len := by omega
      have hn := not32 c hcl
      have HF : Hid (crcF xs = 4294967295 - (c : Int)) := Lib.hid (by
        unfold crcF; rw [← HE.out, List.drop_of_length_le (by rw [HL.out]; omega)]; rfl)
      clear hk'
      go_wp2
      go_ret
      rw [HF.out]
      exact ⟨rfl, rfl⟩
theorem rcrc_any (a : Option Addr) (len cap : Nat) (xs : List Nat) (w : World) (hr : RowB w a len cap xs) :
    Calls Tryd.prog 45 #[.slice a len cap] w fun e w' => e = .returned (.int .u32 (crcF xs)) ∧ ∃ n, w' = w.drewN n :=
  (rcrc_same a len cap xs w hr).mono fun _ _ ⟨he, hw⟩ => ⟨he, 0, hw⟩

end Go.Proofs.YtibpnlhdpdfhiaaDoor
