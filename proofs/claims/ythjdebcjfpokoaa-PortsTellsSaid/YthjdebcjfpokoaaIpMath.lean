/- What a header that was built says: its sum is right, its parts come back. -/
import Derived.Test.YthjdebcjfpokoaaIpBuild
import Derived.Test.YthjdebcjfpokoaaIpHead
import Derived.Test.YthjdebcjfpokoaaTurnsMath
set_option linter.unusedVariables false
namespace Go.Proofs.Ythjdebcjfpokoaa
open Go.RowKit

theorem preF_eq (h : HArg) : preF h = [69, u64N h.tos % 256, u64N h.len / 256 % 256, u64N h.len % 256, u64N h.id / 256 % 256, u64N h.id % 256, u64N (h.flags % 8 * 8192 + h.off % 8192) / 256 % 256, u64N (h.flags % 8 * 8192 + h.off % 8192) % 256, u64N h.ttl % 256, u64N h.proto % 256, 0, 0,
    u64N h.src / 16777216 % 256, u64N h.src / 65536 % 256, u64N h.src / 256 % 256, u64N h.src % 256, u64N h.dst / 16777216 % 256, u64N h.dst / 65536 % 256, u64N h.dst / 256 % 256, u64N h.dst % 256] := by
  simp [preF, beB, List.range_succ]
theorem builtF_eq (h : HArg) : builtF h = [69, u64N h.tos % 256, u64N h.len / 256 % 256, u64N h.len % 256, u64N h.id / 256 % 256, u64N h.id % 256, u64N (h.flags % 8 * 8192 + h.off % 8192) / 256 % 256, u64N (h.flags % 8 * 8192 + h.off % 8192) % 256, u64N h.ttl % 256, u64N h.proto % 256, (netF (preF h) / 256).toNat, (netF (preF h) % 256).toNat,
    u64N h.src / 16777216 % 256, u64N h.src / 65536 % 256, u64N h.src / 256 % 256, u64N h.src % 256, u64N h.dst / 16777216 % 256, u64N h.dst / 65536 % 256, u64N h.dst / 256 % 256, u64N h.dst % 256] := by
  unfold builtF
  generalize netF (preF h) = N
  rw [preF_eq]; rfl
theorem sum16_pre_pos (h : HArg) : 0 < sum16 (preF h) := by
  rw [preF_eq]
  simp only [sum16]
  omega
/-- THE SUM OF WHAT IS BUILT IS RIGHT. -/
theorem netF_built (h : HArg) : netF (builtF h) = 0 := by
  have hs := sum16_pre_pos h
  have hn := netF_le (preF h)
  have e : sum16 (builtF h) = sum16 (preF h) + netF (preF h) := by
    rw [builtF_eq]
    generalize netF (preF h) = N at *
    rw [preF_eq]
    simp only [sum16]
    omega
  rw [netF_eq, e, netF_eq]
  generalize sum16 (preF h) = S at *
  have h1 := lowF_le S
  unfold lowF at *
  split <;> split <;> omega
theorem gb_app (F r : List Nat) (i : Nat) (h : i < F.length) : gb (F ++ r) i = gb F i := by
  rw [gb_get _ _ (by simp; omega), gb_get _ _ h, List.getElem_append_left h]
theorem hdr_app (F r : List Nat) (h : 20 ≤ F.length) : hdr (F ++ r) = hdr F := by
  simp only [hdr]
  rw [gb_app _ _ _ (by omega), gb_app _ _ _ (by omega), gb_app _ _ _ (by omega), gb_app _ _ _ (by omega), gb_app _ _ _ (by omega), gb_app _ _ _ (by omega), gb_app _ _ _ (by omega), gb_app _ _ _ (by omega), gb_app _ _ _ (by omega), gb_app _ _ _ (by omega), gb_app _ _ _ (by omega), gb_app _ _ _ (by omega), gb_app _ _ _ (by omega), gb_app _ _ _ (by omega), gb_app _ _ _ (by omega), gb_app _ _ _ (by omega), gb_app _ _ _ (by omega), gb_app _ _ _ (by omega), gb_app _ _ _ (by omega), gb_app _ _ _ (by omega)]
theorem u64N_nat (n : Nat) (h : n < 18446744073709551616) : u64N (n : Int) = n := by unfold u64N; omega
theorem u64N_of (n : Int) (h0 : 0 ≤ n) (h : n < 18446744073709551616) : (u64N n : Int) = n := by unfold u64N; omega
theorem beN4 (x : Nat) (h : x < 4294967296) : beN [x / 16777216 % 256, x / 65536 % 256, x / 256 % 256, x % 256] = x := by
  simp [beN]; omega
/-- What bytes say that begin with a header that was built. -/
theorem hdr_built (h : HArg) (r : List Nat) (hs : 0 ≤ h.src ∧ h.src ≤ 4294967295) (hd : 0 ≤ h.dst ∧ h.dst ≤ 4294967295) : hdr (builtF h ++ r) =
    ⟨5, u64N h.tos % 256, u64N h.len % 65536, u64N h.id % 65536, (h.flags % 8).toNat, (h.off % 8192).toNat, u64N h.ttl % 256, u64N h.proto % 256, (netF (preF h)).toNat, h.src.toNat, h.dst.toNat⟩ := by
  rw [hdr_app _ _ (by rw [builtF_length]; omega), builtF_eq]
  have hn := netF_le (preF h)
  generalize netF (preF h) = N at *
  have e1 : u64N (h.flags % 8 * 8192 + h.off % 8192) = (h.flags % 8 * 8192 + h.off % 8192).toNat := by unfold u64N; omega
  have e2 : u64N h.src = h.src.toNat := by unfold u64N; omega
  have e3 : u64N h.dst = h.dst.toNat := by unfold u64N; omega
  rw [e1, e2, e3]
  simp only [hdr, gb, List.getD_cons_zero, List.getD_cons_succ]
  rw [beN4 _ (by omega), beN4 _ (by omega)]
  rw [Hdr.mk.injEq]
  refine ⟨by omega, by omega, by omega, by omega, by omega, by omega, by omega, by omega, by omega, rfl, rfl⟩
theorem why_built (h : HArg) (r : List Nat) (n : Nat) (hn : h.len = n) (h1 : 20 ≤ n) (h2 : n < 65536) : whyF (builtF h ++ r) = if r.length + 20 < n then 5 else 0 := by
  have hl := builtF_length h
  have e0 : gb (builtF h ++ r) 0 = 69 := by rw [gb_app _ _ _ (by omega), builtF_eq]; rfl
  have e23 : gb (builtF h ++ r) 2 * 256 + gb (builtF h ++ r) 3 = n := by
    rw [gb_app _ _ _ (by omega), gb_app _ _ _ (by omega), builtF_eq, hn, u64N_nat n (by omega)]
    simp only [gb, List.getD_cons_zero, List.getD_cons_succ]
    omega
  have et : netF ((builtF h ++ r).take (4 * (69 % 16))) = 0 := by
    rw [show 4 * (69 % 16) = (builtF h).length from by rw [hl], List.take_left]; exact netF_built h
  unfold whyF
  rw [e0, e23, if_neg (by simp; omega), if_neg (by decide), if_neg (by decide), if_neg (by simp; omega), if_neg (by rw [et]; simp), if_neg (by omega)]
  simp only [List.length_append, hl]
  by_cases hc : r.length + 20 < n
  · rw [if_pos (by omega), if_pos hc]
  · rw [if_neg (by omega), if_neg hc]
end Go.Proofs.Ythjdebcjfpokoaa
