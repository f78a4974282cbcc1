import Derived.Test.YtpjdcgjoepjmcaaGreatIpRefZ
import Derived.Test.YtpjdcgjoepjmcaaGreatIpBuildZ
import Derived.Test.YtpjdcgjoepjmcaaGreatHAZ
import Derived.Test.YtpjdcgjoepjmcaaGreatIpHeadZ
import Derived.Test.YtpjdcgjoepjmcaaGreatIpParseZ
set_option linter.unusedVariables false
section
namespace Go.Proofs.YtpjdcgjoepjmcaaGreat
open Go.RowKit
def tellH (xs : List Nat) : Hdr := if whyF xs = 0 then hdr xs else hdr0
def tellY (xs : List Nat) : List Nat := if whyF xs = 0 then (xs.take (hdr xs).len).drop (4 * (hdr xs).ihl) else []
def ParseIs (w w' : World) (h : Hdr) (n : Nat) (ys : List Nat) (why : Nat) (e : Ending) : Prop :=
 ∃ a c, e = .returned (.tuple #[hv h, .slice a n c, .int .i64 (why : Nat)]) ∧ RowB w' a n c ys ∧ Touch w w' (fun _ => False) ∧ (∀ x, a = some x → w.heap.size ≤ x.block)
theorem ParseIs.bad {w w' : World} {xs : List Nat} {e : Ending} (hy : whyF xs ≠ 0) (he : e = .returned (.tuple #[hv hdr0, .slice none 0 0, .int .i64 (whyF xs)])) (t : Touch w w' (fun _ => False)) : ParseIs w w' (tellH xs) (tellY xs).length (tellY xs) (whyF xs) e := by
 unfold tellH tellY
 rw [if_neg hy, if_neg hy]
 exact ⟨none, 0, he, RowB.nil _ _ _ (by omega), t, fun x hx => by cases hx⟩
theorem ParseIs.good {w w' : World} {xs : List Nat} {e : Ending} (hy : whyF xs = 0) (hp : Parsed w w' xs e) : ParseIs w w' (tellH xs) (tellY xs).length (tellY xs) (whyF xs) e := by
 unfold tellH tellY
 rw [if_pos hy, if_pos hy, hy]
 obtain ⟨z1, z2, z3, z4, z5, z6, z7⟩ := why_zero hy
 have hl : ((xs.take (hdr xs).len).drop (4 * (hdr xs).ihl)).length = (hdr xs).len - 4 * (hdr xs).ihl := by
  have : (hdr xs).len ≤ xs.length := z7
  simp; omega
 obtain ⟨a', c', rfl, ho, t⟩ := hp
 obtain ⟨a2, c2, hv2, hr, hp⟩ := ho.row
 rw [hl] at hv2 hr ⊢
 simp only [Value.slice.injEq, true_and] at hv2
 obtain ⟨rfl, rfl⟩ := hv2
 refine ⟨_, _, rfl, hr, t, fun x hx => ?_⟩
 rcases hp with h1 | ⟨g, h1, h2, _⟩
 ·rw [hx] at h1; cases h1
 ·rw [hx] at h1; cases h1; exact h2
theorem parse_is (a : Option Addr) (len cap : Nat) (xs : List Nat) (w : World) (hr : RowB w a len cap xs) :
 Calls Tryz.prog 77 #[.slice a len cap] w fun e w' => ParseIs w w' (tellH xs) (tellY xs).length (tellY xs) (whyF xs) e := by
 by_cases hy : whyF xs = 0
 ·exact (parse_ok a len cap xs w hr hy).mono fun e w' h => ParseIs.good hy h
 ·exact (parse_bad a len cap xs w hr hy).mono fun e w' h => ParseIs.bad hy h.1 h.2
theorem rparse_is (a : Option Addr) (len cap : Nat) (xs : List Nat) (w : World) (hr : RowB w a len cap xs) (hlen : len ≤ 140737488351232) :
 Calls Tryz.prog 66 #[.slice a len cap] w fun e w' => ParseIs w w' (tellH xs) (tellY xs).length (tellY xs) (whyF xs) e := by
 by_cases hl : len < 20
 ·have hw : whyF xs = 1 := why_short (by rw [hr.1]; exact hl)
  exact (rparse_short a len cap xs w hr hl).mono fun e w' h => ParseIs.bad (by omega) (by rw [hw]; exact h.1) h.2
 ·refine (rparse_long a len cap xs w hr (by omega) hlen).mono ?_
  rintro e w' (⟨h1, h2, h3⟩ | ⟨h1, h2⟩)
  ·exact ParseIs.bad h1 h2 h3
  ·exact ParseIs.good h1 h2
def wholeB (flags off : Int) : Bool := if flags % 2 = 0 then decide (off = 0) else false
theorem whole_any' (a b c d f o g i j k m : Int) (w : World) :
 Calls Tryz.prog 108 #[.agg #[.int .i64 a, .int .i64 b, .int .i64 c, .int .i64 d, .int .i64 f, .int .i64 o, .int .i64 g, .int .i64 i, .int .i64 j, .int .u32 k, .int .u32 m]] w fun e w' => e = .returned (.bool (wholeB f o)) ∧ Touch w w' (fun _ => False) := by
 have m1 : bits BinOp.and IntKind.i64 f 1 = f % 2 := mask_i64 _ 1 (by decide) 1 rfl
 by_cases hf : f % 2 = 0
 ·have hfb : (f % 2 == 0) = true := beq_iff_eq.2 hf
  have e : wholeB f o = (o == 0) := by unfold wholeB; rw [if_pos hf]; rw [Bool.eq_iff_iff]; simp
  rw [e]
  clear hf e
  go_enter Tryz.func108, Tryz.ntmps108
  go_wp2
  all_goals (go_ret; exact ⟨rfl, (Touch.refl _ _).alloc _⟩)
 ·have hfb : (f % 2 == 0) = false := beq_eq_false_iff_ne.2 hf
  have e : wholeB f o = false := by unfold wholeB; rw [if_neg hf]
  rw [e]
  clear hf e
  go_enter Tryz.func108, Tryz.ntmps108
  go_wp2
  all_goals (go_ret; exact ⟨rfl, (Touch.refl _ _).alloc _⟩)
theorem rwhole_any' (a b c d f o g i j k m : Int) (w : World) :
 Calls Tryz.prog 67 #[.agg #[.int .i64 a, .int .i64 b, .int .i64 c, .int .i64 d, .int .i64 f, .int .i64 o, .int .i64 g, .int .i64 i, .int .i64 j, .int .u32 k, .int .u32 m]] w fun e w' => e = .returned (.bool (wholeB f o)) ∧ Touch w w' (fun _ => False) := by
 have m1 : bits BinOp.and IntKind.i64 f 1 = f % 2 := mask_i64 _ 1 (by decide) 1 rfl
 by_cases hf : f % 2 = 0
 ·have hfb : (f % 2 == 0) = true := beq_iff_eq.2 hf
  have e : wholeB f o = (o == 0) := by unfold wholeB; rw [if_pos hf]; rw [Bool.eq_iff_iff]; simp
  rw [e]
  clear hf e
  go_enter Tryz.func67, Tryz.ntmps67
  go_wp2
  all_goals (go_ret; exact ⟨rfl, (Touch.refl _ _).alloc _⟩)
 ·have hfb : (f % 2 == 0) = false := beq_eq_false_iff_ne.2 hf
  have e : wholeB f o = false := by unfold wholeB; rw [if_neg hf]
  rw [e]
  clear hf e
  go_enter Tryz.func67, Tryz.ntmps67
  go_wp2
  all_goals (go_ret; exact ⟨rfl, (Touch.refl _ _).alloc _⟩)
end Go.Proofs.YtpjdcgjoepjmcaaGreat
end
section
namespace Go.Proofs.YtpjdcgjoepjmcaaGreat
end Go.Proofs.YtpjdcgjoepjmcaaGreat
end
section
namespace Go.Proofs.YtpjdcgjoepjmcaaGreat
open Go.RowKit
theorem preF_eq (h : HArg) : preF h = [69, u64N h.tos % 256, u64N h.len / 256 % 256, u64N h.len % 256, u64N h.id / 256 % 256, u64N h.id % 256, u64N (h.flags % 8 * 8192 + h.off % 8192) / 256 % 256, u64N (h.flags % 8 * 8192 + h.off % 8192) % 256, u64N h.ttl % 256, u64N h.proto % 256, 0, 0,
 u64N h.src / 16777216 % 256, u64N h.src / 65536 % 256, u64N h.src / 256 % 256, u64N h.src % 256, u64N h.dst / 16777216 % 256, u64N h.dst / 65536 % 256, u64N h.dst / 256 % 256, u64N h.dst % 256] := by
 simp [preF, beB, List.range_succ]
theorem builtF_eq (h : HArg) : builtF h = [69, u64N h.tos % 256, u64N h.len / 256 % 256, u64N h.len % 256, u64N h.id / 256 % 256, u64N h.id % 256, u64N (h.flags % 8 * 8192 + h.off % 8192) / 256 % 256, u64N (h.flags % 8 * 8192 + h.off % 8192) % 256, u64N h.ttl % 256, u64N h.proto % 256, (netF (preF h) / 256).toNat, (netF (preF h) % 256).toNat,
 u64N h.src / 16777216 % 256, u64N h.src / 65536 % 256, u64N h.src / 256 % 256, u64N h.src % 256, u64N h.dst / 16777216 % 256, u64N h.dst / 65536 % 256, u64N h.dst / 256 % 256, u64N h.dst % 256] := by
 unfold builtF
 generalize netF (preF h) = N
 rw [preF_eq]; rfl
theorem sum16_pre_pos (h : HArg) : 0 < sum16 (preF h) := by
 rw [preF_eq]
 simp only [sum16]
 omega
theorem netF_built (h : HArg) : netF (builtF h) = 0 := by
 have hs := sum16_pre_pos h
 have hn := netF_le (preF h)
 have e : sum16 (builtF h) = sum16 (preF h) + netF (preF h) := by
  rw [builtF_eq]
  generalize netF (preF h) = N at *
  rw [preF_eq]
  simp only [sum16]
  omega
 rw [netF_eq, e, netF_eq]
 generalize sum16 (preF h) = S at *
 have h1 := lowF_le S
 unfold lowF at *
 split <;> split <;> omega
theorem gb_app (F r : List Nat) (i : Nat) (h : i < F.length) : gb (F ++ r) i = gb F i := by
 rw [gb_get _ _ (by simp; omega), gb_get _ _ h, List.getElem_append_left h]
theorem hdr_app (F r : List Nat) (h : 20 ≤ F.length) : hdr (F ++ r) = hdr F := by
 simp only [hdr]
 rw [gb_app _ _ _ (by omega), gb_app _ _ _ (by omega), gb_app _ _ _ (by omega), gb_app _ _ _ (by omega), gb_app _ _ _ (by omega), gb_app _ _ _ (by omega), gb_app _ _ _ (by omega), gb_app _ _ _ (by omega), gb_app _ _ _ (by omega), gb_app _ _ _ (by omega), gb_app _ _ _ (by omega), gb_app _ _ _ (by omega), gb_app _ _ _ (by omega), gb_app _ _ _ (by omega), gb_app _ _ _ (by omega), gb_app _ _ _ (by omega), gb_app _ _ _ (by omega), gb_app _ _ _ (by omega), gb_app _ _ _ (by omega), gb_app _ _ _ (by omega)]
theorem u64N_natI (n : Nat) (h : n < 18446744073709551616) : u64N (n : Int) = n := by unfold u64N; omega
theorem beN4 (x : Nat) (h : x < 4294967296) : beN [x / 16777216 % 256, x / 65536 % 256, x / 256 % 256, x % 256] = x := by
 simp [beN]; omega
theorem hdr_built (h : HArg) (r : List Nat) (hs : 0 ≤ h.src ∧ h.src ≤ 4294967295) (hd : 0 ≤ h.dst ∧ h.dst ≤ 4294967295) : hdr (builtF h ++ r) =
 ⟨5, u64N h.tos % 256, u64N h.len % 65536, u64N h.id % 65536, (h.flags % 8).toNat, (h.off % 8192).toNat, u64N h.ttl % 256, u64N h.proto % 256, (netF (preF h)).toNat, h.src.toNat, h.dst.toNat⟩ := by
 rw [hdr_app _ _ (by rw [builtF_length]; omega), builtF_eq]
 have hn := netF_le (preF h)
 generalize netF (preF h) = N at *
 have e1 : u64N (h.flags % 8 * 8192 + h.off % 8192) = (h.flags % 8 * 8192 + h.off % 8192).toNat := by unfold u64N; omega
 have e2 : u64N h.src = h.src.toNat := by unfold u64N; omega
 have e3 : u64N h.dst = h.dst.toNat := by unfold u64N; omega
 rw [e1, e2, e3]
 simp only [hdr, gb, List.getD_cons_zero, List.getD_cons_succ]
 rw [beN4 _ (by omega), beN4 _ (by omega)]
 rw [Hdr.mk.injEq]
 refine ⟨by omega, by omega, by omega, by omega, by omega, by omega, by omega, by omega, by omega, rfl, rfl⟩
theorem why_built (h : HArg) (r : List Nat) (n : Nat) (hn : h.len = n) (h1 : 20 ≤ n) (h2 : n < 65536) : whyF (builtF h ++ r) = if r.length + 20 < n then 5 else 0 := by
 have hl := builtF_length h
 have e0 : gb (builtF h ++ r) 0 = 69 := by rw [gb_app _ _ _ (by omega), builtF_eq]; rfl
 have e23 : gb (builtF h ++ r) 2 * 256 + gb (builtF h ++ r) 3 = n := by
  rw [gb_app _ _ _ (by omega), gb_app _ _ _ (by omega), builtF_eq, hn, u64N_natI n (by omega)]
  simp only [gb, List.getD_cons_zero, List.getD_cons_succ]
  omega
 have et : netF ((builtF h ++ r).take (4 * (69 % 16))) = 0 := by
  rw [show 4 * (69 % 16) = (builtF h).length from by rw [hl], List.take_left]; exact netF_built h
 unfold whyF
 rw [e0, e23, if_neg (by simp; omega), if_neg (by decide), if_neg (by decide), if_neg (by simp; omega), if_neg (by rw [et]; simp), if_neg (by omega)]
 simp only [List.length_append, hl]
 by_cases hc : r.length + 20 < n
 ·rw [if_pos (by omega), if_pos hc]
 ·rw [if_neg (by omega), if_neg hc]
end Go.Proofs.YtpjdcgjoepjmcaaGreat
end
section
namespace Go.Proofs.YtpjdcgjoepjmcaaGreat
open Go.RowKit
theorem len_built (h : HArg) (r : List Nat) (n : Nat) (hn : h.len = n) (h2 : n < 65536) : (hdr (builtF h ++ r)).len = n ∧ (hdr (builtF h ++ r)).ihl = 5 := by
 have hl := builtF_length h
 rw [hdr_app _ _ (by omega)]
 have e0 : gb (builtF h) 0 = 69 := by rw [builtF_eq]; rfl
 have e2 : gb (builtF h) 2 = n / 256 % 256 := by rw [builtF_eq, hn, u64N_natI n (by omega)]; rfl
 have e3 : gb (builtF h) 3 = n % 256 := by rw [builtF_eq, hn, u64N_natI n (by omega)]; rfl
 refine ⟨?_, ?_⟩
 ·show gb (builtF h) 2 * 256 + gb (builtF h) 3 = n
  rw [e2, e3]; omega
 ·show gb (builtF h) 0 % 16 = 5
  rw [e0]
theorem rest_built (h : HArg) (xs r : List Nat) (hn : h.len = (20 + xs.length : Nat)) (h2 : xs.length ≤ 65000) : ((builtF h ++ (xs ++ r)).take (20 + xs.length)).drop (4 * 5) = xs := by
 have hl := builtF_length h
 rw [← List.append_assoc, show 20 + xs.length = (builtF h ++ xs).length from by simp [hl], List.take_left, show 4 * 5 = (builtF h).length from by rw [hl], List.drop_left]
end Go.Proofs.YtpjdcgjoepjmcaaGreat
end
section
namespace Go.Proofs.YtpjdcgjoepjmcaaGreat
open Go.RowKit
end Go.Proofs.YtpjdcgjoepjmcaaGreat
end
