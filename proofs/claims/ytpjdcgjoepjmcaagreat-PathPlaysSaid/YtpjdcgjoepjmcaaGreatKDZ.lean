import Derived.Test.YtpjdcgjoepjmcaaGreatKCZ
import Derived.Test.YtpjdcgjoepjmcaaGreatGBZ
import Derived.Deep.RegionHeld3
import Derived.Test.YtpjdcgjoepjmcaaGreatSliceNZ
set_option linter.unusedVariables false
section
namespace Go.Proofs.YtpjdcgjoepjmcaaGreat
open Go.RowKit
set_option maxRecDepth 20000 in
set_option maxHeartbeats 1000000 in
theorem life_any (t p : Int) (w : World) (ht : 0 ≤ t ∧ t < 256) (hp : 0 ≤ p ∧ p < 256) :
 Calls Tryz.prog 121 #[.int .i64 t, .int .i64 p] w fun e w' => e = .returned (.int .u16 (t * 256 + p)) ∧ w' = w := by
 have hor : bits BinOp.or IntKind.i64 (t * 256) p = t * 256 + p := or_i64 _ _ 8 (by omega) (by omega) (by omega) (by omega) (by omega) (by omega)
 go_enter Tryz.func121, Tryz.ntmps121
 go_wp2_with fail
 go_ret
 exact ⟨rfl, rfl⟩
def fixS (h : Hdr) : Int := fixF h.sum ((h.ttl : Int) * 256 + h.proto) (((h.ttl : Int) - 1) * 256 + h.proto)
theorem fixS_le (h : Hdr) : 0 ≤ fixS h ∧ fixS h ≤ 65535 := foldF_le _
def olderF (xs : List Nat) (h : Hdr) : List Nat := ((xs.set 8 ((gb xs 8 + 255) % 256)).set 10 (fixS h / 256).toNat).set 11 (fixS h % 256).toNat
theorem olderF_length (xs : List Nat) (h : Hdr) : (olderF xs h).length = xs.length := by simp [olderF]
set_option maxRecDepth 20000 in
set_option maxHeartbeats 4000000 in
theorem older_any (a : Option Addr) (len cap : Nat) (xs : List Nat) (h : Hdr) (w : World) (hr : RowB w a len cap xs) (hl : 20 ≤ len) (hlen : len ≤ 140737488355328) (h1 : 1 ≤ h.ttl ∧ h.ttl < 256) (h2 : h.proto < 256) (h3 : h.sum < 65536) :
 Calls Tryz.prog 83 #[.slice a len cap, .agg (hcs h)] w fun e w' => ∃ a' cap', e = .returned (.slice a' len cap') ∧ FreshB w w' (.slice a' len cap') (olderF xs h) := by
 obtain ⟨W1, hW1⟩ : ∃ W, w.alloc (.cells (hcs h) 76) = W := ⟨_, rfl⟩
 have t1 : Touch w W1 (fun _ => False) := hW1 ▸ (Touch.refl _ _).alloc _
 have HH : RowKit.Hid (W1.heap[w.heap.size]? = some (.cells (hcs h) 76 (0, 0))) := Lib.hid (hW1 ▸ heap_alloc_new w _)
 have H := Lib.hid (clone_any a len cap xs W1 (hr.touch t1 (fun _ _ => .inr (fun h => h))) hlen)
 have HW1 := Lib.hid hW1
 have hx := hr.1
 have HX := Lib.hid hx
 have b8 := gb_lt xs hr.2.2.2.2.1 8
 clear hW1 hr
 have hF : olderF xs h = ((xs.set 8 ((gb xs 8 + 255) % 256)).set 10 (fixS h / 256).toNat).set 11 (fixS h % 256).toNat := rfl
 have HF := Lib.hid hF
 have hs := fixS_le h
 have HS : RowKit.Hid (fixF h.sum ((h.ttl : Int) * 256 + h.proto) (((h.ttl : Int) - 1) * 256 + h.proto) = fixS h) := Lib.hid rfl
 generalize fixS h = s at *
 generalize olderF xs h = F at *
 clear hF
 simp only [hcs] at HW1 ⊢
 go_enter Tryz.func83, Tryz.ntmps83
 go_upto_region 1 with fail
 rw [HW1.out]
 go_wp2_with fail
 (with_reducible refine H.out.mono ?_)
 rintro e w2 ⟨a2, c2, rfl, hf2⟩
 obtain ⟨ho2, t2⟩ := hf2
 have ho2' := ho2.base (base' := w.heap.size + 1) (fun k hk => by have := (ho2.own.lt k hk).1; have := heap_lt HH.out; omega)
 obtain ⟨a3, c3, hv2, hr2, hp2⟩ := ho2'.row
 rw [hx] at hv2 hr2
 simp only [Value.slice.injEq, true_and] at hv2
 obtain ⟨rfl, rfl⟩ := hv2
 obtain ⟨b, off, rfl⟩ := hr2.some (by omega)
 obtain hp2 | ⟨g, hp2, hg1, hg2⟩ := hp2
 ·cases hp2
 simp only [Option.some.injEq, Addr.mk.injEq] at hp2
 obtain ⟨rfl, rfl, -⟩ := hp2
 have hle := hr2.2.1
 have HT2 := Lib.hid (t1.trans t2 (fun _ _ h => h))
 have HH2 := Lib.hid (t2.keeps HH.out (fun h => h))
 have q8 := ho2'.at hx 8 (by omega) (by omega)
 rw [← gb_get _ _ (by omega)] at q8
 have fr := ho2'.free hx 8
 have e8 : ((gb xs 8 : Int) - 1) % 256 = (((gb xs 8 + 255) % 256 : Nat) : Int) := by omega
 have ho3 := ho2'.stored hx 8 ((gb xs 8 + 255) % 256) (by omega)
 have hb : b < w.heap.size → False := fun h => by omega
 have t3 := HT2.out.setCell ⟨b, 8, none⟩ (.int .u8 (((gb xs 8 + 255) % 256 : Nat) : Int)) hb
 have hh3 : (w2.setCell ⟨b, 8, none⟩ (.int .u8 (((gb xs 8 + 255) % 256 : Nat) : Int))).heap[w.heap.size]? = _ := (Below.heap_setCell _ _ _ w.heap.size (by show w.heap.size ≠ b; omega)).trans HH2.out
 have hl3 : (xs.set 8 ((gb xs 8 + 255) % 256)).length = len := by simp [hx]
 generalize (gb xs 8 + 255) % 256 = y8 at *
 generalize xs.set 8 y8 = Y at *
 obtain ⟨W3, hW3⟩ : ∃ W, w2.setCell ⟨b, 8, none⟩ (.int .u8 (y8 : Int)) = W := ⟨_, rfl⟩
 rw [hW3] at ho3 t3 hh3
 obtain ⟨g0, g1, g2, g3, g4, g5, g6, g7, g8, g9, g10⟩ := hcells_of hh3
 have HO3 := Lib.hid ho3
 have HT3 := Lib.hid t3
 have HL3 := Lib.hid hl3
 have i8 : (8 : Int) < len := by omega
 clear ho2 ho2' hr2 t2 t1 ho3 t3 hh3 hl3 HH2 HT2 H HH
 go_wp2_with fail
 have w1 : IntKind.i64.wrap ((h.ttl : Int) - 1) = (h.ttl : Int) - 1 := IntWalk.i64_in _ (by omega)
 have w2' : IntKind.u16.wrap (h.sum : Int) = (h.sum : Int) := by simp [IntKind.wrap, IntKind.bits, IntKind.signed]; omega
 go_quiet (first
  | (go_at_call 121; exact Calls.quiet_of_same (life_any _ _ _ (by omega) (by omega)))
  | (go_at_call 120; exact Calls.quiet_of (fix_any _ _ _ _ (by omega) (by omega) (by omega) (by omega) (by omega) (by omega))))
 clear w1 w2'
 rw [HS.out]
 have ho4 := HO3.out.drewN nq
 have HT4 := Lib.hid (HT3.out.drewN nq)
 generalize W3.drewN nq = W4 at *
 have f10 := ho4.free HL3.out 10
 have f11 := ho4.free HL3.out 11
 have ex1 : s / 256 % 256 = (((s / 256).toNat : Nat) : Int) := by omega
 have ex2 : s % 256 = (((s % 256).toNat : Nat) : Int) := by omega
 have q10 := ho4.at HL3.out 10 (by omega) (by rw [HL3.out]; omega)
 have q11 := ho4.at HL3.out 11 (by omega) (by rw [HL3.out]; omega)
 have ho5 := ho4.stored HL3.out 10 (s / 256).toNat (by omega)
 have ho6 := ho5.stored (by simp [HL3.out]) 11 (s % 256).toNat (by omega)
 rw [← ex2] at ho6
 have es : (((s / 256).toNat : Nat) : Int) = s / 256 := by omega
 rw [es] at ho6
 have HO6 := Lib.hid ho6
 have HT6 := Lib.hid ((HT4.out.setCell ⟨b, 10, none⟩ (.int .u8 (s / 256)) hb).setCell ⟨b, 11, none⟩ (.int .u8 (s % 256)) hb)
 have i10 : (10 : Int) < len := by omega
 have i11 : (11 : Int) < len := by omega
 clear ho4 ho5 ho6 ex1 ex2 es e8 g0 g1 g2 g3 g4 g5 g6 g7 g8 g9 g10 HO3 HT3 HT4 hW3 q8 fr
 go_wp2_with fail
 go_ret
 exact ⟨some ⟨b, 0, none⟩, c2, rfl, HF.out ▸ HO6.out.base (fun k hk => by simp [Value.ownBlock] at hk; omega), HT6.out⟩
end Go.Proofs.YtpjdcgjoepjmcaaGreat
end
section
namespace Go.Proofs.YtpjdcgjoepjmcaaGreat
open Go.RowKit
theorem gb_take (xs : List Nat) (n i : Nat) (h : i < n) : gb (xs.take n) i = gb xs i := by
 unfold gb; rw [List.getD_eq_getElem?_getD, List.getD_eq_getElem?_getD, List.getElem?_take_of_lt h]
theorem hdr_lt (xs : List Nat) (hs : ∀ x ∈ xs, x < 256) : (hdr xs).ihl < 16 ∧ (hdr xs).tos < 256 ∧ (hdr xs).len < 65536 ∧ (hdr xs).id < 65536 ∧ (hdr xs).flags < 8 ∧ (hdr xs).ttl < 256 ∧ (hdr xs).proto < 256 ∧ (hdr xs).sum < 65536 := by
 have b0 := gb_lt xs hs 0
 have b1 := gb_lt xs hs 1
 have b2 := gb_lt xs hs 2
 have b3 := gb_lt xs hs 3
 have b4 := gb_lt xs hs 4
 have b5 := gb_lt xs hs 5
 have b6 := gb_lt xs hs 6
 have b8 := gb_lt xs hs 8
 have b9 := gb_lt xs hs 9
 have b10 := gb_lt xs hs 10
 have b11 := gb_lt xs hs 11
 simp only [hdr]
 omega
theorem why_take (xs : List Nat) (h : whyF xs = 0) : whyF (xs.take (hdr xs).len) = 0 ∧ 20 ≤ (hdr xs).len ∧ (hdr xs).len ≤ xs.length ∧ (xs.take (hdr xs).len).length = (hdr xs).len := by
 obtain ⟨z1, z2, z3, z4, z5, z6, z7⟩ := why_zero h
 have hl : (hdr xs).len = gb xs 2 * 256 + gb xs 3 := rfl
 have h20 : 20 ≤ (hdr xs).len := by omega
 have hlt : (xs.take (hdr xs).len).length = (hdr xs).len := by simp; omega
 refine ⟨?_, h20, by omega, hlt⟩
 unfold whyF
 rw [gb_take _ _ _ (by omega), gb_take _ _ _ (by omega), gb_take _ _ _ (by omega), List.take_take, Nat.min_eq_left (by omega), z5, if_neg (by omega), if_neg (by omega), if_neg (by omega), if_neg (by omega), if_neg (by omega), if_neg (by omega), if_neg (by omega)]
theorem slice_h (a : Option Addr) (len cap : Nat) (H : Int) (h : Nat) (hH : H = h) (h2 : h ≤ cap) :
 ∃ A C, (∀ w, (Instr.sliceAt 38 (.slice a len cap) none (some (.int .i64 H)) none).run Tryz.prog w = .ok (.slice A h C) w) ∧ Part a len cap 0 h A C := by
 refine ⟨_, _, fun w => ?_, part_of a len cap 0 h (Nat.zero_le _) h2⟩
 subst hH
 rw [run_sliceAt_slice w _ _ _ _ _ undB, run_slice_h w _ a len cap undB .i64 _ (by omega) (by omega), elemB, size1]
 simp [sliced]
end Go.Proofs.YtpjdcgjoepjmcaaGreat
end
section
namespace Go.Proofs.YtpjdcgjoepjmcaaGreat
open Go.RowKit
def whyU (xs : List Nat) : Nat := if whyF xs ≠ 0 then whyF xs else if (hdr xs).proto ≠ 4 then 8 else whyF (tellY xs)
def tellU (xs : List Nat) : List Nat := if whyU xs = 0 then (tellY xs).take (hdr (tellY xs)).len else []
def srcU (xs : List Nat) : Nat := if whyU xs = 0 then (hdr xs).src else 0
def dstU (xs : List Nat) : Nat := if whyU xs = 0 then (hdr xs).dst else 0
def UnwrapIs (w w' : World) (xs : List Nat) (e : Ending) : Prop :=
 ∃ a n c, e = .returned (.tuple #[.slice a n c, .int .u32 (srcU xs : Nat), .int .u32 (dstU xs : Nat), .int .i64 (whyU xs : Nat)]) ∧ RowB w' a n c (tellU xs) ∧ Touch w w' (fun _ => False)
end Go.Proofs.YtpjdcgjoepjmcaaGreat
end
