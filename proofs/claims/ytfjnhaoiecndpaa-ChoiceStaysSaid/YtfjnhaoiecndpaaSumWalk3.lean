/- What Net, Fix, Mix of package sum answer, and the reference's own. -/
import Derived.Test.YtfjnhaoiecndpaaSumWalk2
set_option linter.unusedVariables false
namespace Go.Proofs.Ytfjnhaoiecndpaa
open Go.RowKit

theorem or8 (x y : Nat) (hx : x < 256) (hy : y < 256) : bits BinOp.or IntKind.u32 ((x : Int) * 256) (y : Int) = (x : Int) * 256 + y :=
  bits_join .u32 32 (by decide) (fun n a b => by rw [IntKind.wrap_u32]; omega) 8 _ _ (by omega) (by omega) (by omega) (by omega) (by omega) (by omega)

def fixF (sum old now : Int) : Int := foldF (65535 - sum + (65535 - old) + now)

set_option maxHeartbeats 400000 in
theorem mix_any (sd : Nat) (a : Option Addr) (len cap : Nat) (xs : List Nat) (w : World) (hsd : sd < 4294967296) (hr : RowB w a len cap xs) :
    Calls Try.prog 31 #[.int .u32 sd, .slice a len cap] w fun e w' => e = .returned (.int .u32 (mixF sd xs : Nat)) ∧ ∃ n, w' = w.drewN n := by
  obtain ⟨hl, hlc, hcm, hlm, hx, hc⟩ := hr
  have HL := Lib.hid hl
  clear hl
  have HX := Lib.hid hx
  clear hx
  have hx0 : bits BinOp.xor IntKind.u32 (sd : Int) 2166136261 = ((sd ^^^ 2166136261 : Nat) : Int) := u32_xor_nat sd 2166136261 hsd (by omega)
  go_enter Try.func31, Try.ntmps31
  go_wp2
  go_loop [5, 12] (fun s i => ∃ (k c : Nat), k ≤ len ∧ c < 4294967296 ∧ i = .int .i64 k ∧ s = .int .u32 c ∧ mixAll c (xs.drop k) = mixAll (sd ^^^ 2166136261) xs) (fun _ i => len - (intOf i).toNat)
  case atStart => exact ⟨0, sd ^^^ 2166136261, Nat.zero_le _, xor_lt32 _ _ hsd (by omega), rfl, rfl, rfl⟩
  case round =>
    obtain ⟨k, c, hk, hcl, rfl, rfl, he⟩ := hrel
    have HE := Lib.hid he
    clear he
    by_cases hlt : k < len
    · obtain h0 | ⟨b, off, rfl, hcell⟩ := hc
      · omega
      · have hkx : k < xs.length := by rw [HL.out]; exact hlt
        have c0 := hcell k hkx
        clear hcell
        have hb : xs[k] < 256 := HX.out _ (List.getElem_mem hkx)
        have HS := Lib.hid (drop_cons hkx)
        generalize xs[k] = x at *
        have hxo := u32_xor_nat c x hcl (by omega)
        have hlt' : (k : Int) < len := by omega
        have hm : Hid (((c ^^^ x : Nat) : Int) * 16777619 % 4294967296 = ((mixByte c x : Nat) : Int)) := Lib.hid (by unfold mixByte; omega)
        have HC : Hid (mixAll (mixByte c x) (List.drop (k + 1) xs) = mixAll (sd ^^^ 2166136261) xs) := Lib.hid (by
          rw [← mixAll_cons, ← HS.out]; exact HE.out)
        clear hx0
        go_wp2
        rw [hm.out]
        exact ⟨⟨k + 1, mixByte c x, by omega, mixByte_lt _ _, by go_num, rfl, HC.out⟩, by simp [intOf]; omega⟩
    · have HA : Hid (c = mixAll (sd ^^^ 2166136261) xs) := Lib.hid (by
        rw [← HE.out, List.drop_of_length_le (by rw [HL.out]; omega)]; rfl)
      have hlt' : ¬ (k : Int) < len := by omega
      have hq : bits BinOp.xor IntKind.u32 (c : Int) ((c : Int) / 32768) = ((c ^^^ c / 32768 : Nat) : Int) := by
        have e := u32_xor_nat c (c / 32768) hcl (by omega)
        simpa using e
      have hm : IntKind.u32.wrap (((c ^^^ c / 32768 : Nat) : Int) * 2246822507) = ((mixEnd c : Nat) : Int) := by
        rw [IntKind.wrap_u32]; unfold mixEnd; omega
      have hq2 : Hid (bits BinOp.xor IntKind.u32 ((mixEnd c : Nat) : Int) ((mixEnd c : Int) / 8192) = ((mixEnd c ^^^ mixEnd c / 8192 : Nat) : Int)) := Lib.hid (by
        have e := u32_xor_nat (mixEnd c) (mixEnd c / 8192) (mixEnd_lt _) (by have := mixEnd_lt c; omega)
        simpa using e)
      have HM : Hid (mixF sd xs = mixEnd c ^^^ mixEnd c / 8192) := Lib.hid (by unfold mixF; rw [← HA.out])
      clear hx0 hc
      go_wp2
      rw [hq2.out]
      go_ret
      rw [HM.out]
      exact ⟨rfl, 0, rfl⟩

end Go.Proofs.Ytfjnhaoiecndpaa
