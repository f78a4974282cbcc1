import Derived.Test.YtpjdcgjoepjmcaaGreatKBZ
import Derived.Test.YtpjdcgjoepjmcaaGreatGBZ
import Derived.Test.YtpjdcgjoepjmcaaGreatHBZ
set_option linter.unusedVariables false
namespace Go.Proofs.YtpjdcgjoepjmcaaGreat
open Go.RowKit
structure HArg where
 ihl : Int
 tos : Int
 len : Int
 id : Int
 flags : Int
 off : Int
 ttl : Int
 proto : Int
 sum : Int
 src : Int
 dst : Int
def isI64 (n : Int) : Prop := -9223372036854775808 ≤ n ∧ n ≤ 9223372036854775807
structure HArg.Ok (h : HArg) : Prop where
 ihl : isI64 h.ihl
 tos : isI64 h.tos
 len : isI64 h.len
 id : isI64 h.id
 flags : isI64 h.flags
 off : isI64 h.off
 ttl : isI64 h.ttl
 proto : isI64 h.proto
 sum : isI64 h.sum
 src : 0 ≤ h.src ∧ h.src ≤ 4294967295
 dst : 0 ≤ h.dst ∧ h.dst ≤ 4294967295
def acs (h : HArg) : Array Value := #[.int .i64 h.ihl, .int .i64 h.tos, .int .i64 h.len, .int .i64 h.id, .int .i64 h.flags, .int .i64 h.off, .int .i64 h.ttl, .int .i64 h.proto, .int .i64 h.sum, .int .u32 h.src, .int .u32 h.dst]
def preF (h : HArg) : List Nat := [69] ++ beB 1 (u64N h.tos) ++ beB 2 (u64N h.len) ++ beB 2 (u64N h.id) ++ beB 2 (u64N (h.flags % 8 * 8192 + h.off % 8192)) ++ beB 1 (u64N h.ttl) ++ beB 1 (u64N h.proto) ++ [0, 0] ++ beB 4 (u64N h.src) ++ beB 4 (u64N h.dst)
theorem preF_length (h : HArg) : (preF h).length = 20 := by simp [preF, beB_length]
theorem preF_small (h : HArg) : ∀ x ∈ preF h, x < 256 := by
 intro x hx
 simp only [preF, List.mem_append] at hx
 have := beB_small
 rcases hx with ((((((((hx | hx) | hx) | hx) | hx) | hx) | hx) | hx) | hx) | hx
 ·simp at hx; omega
 ·exact beB_small _ _ x hx
 ·exact beB_small _ _ x hx
 ·exact beB_small _ _ x hx
 ·exact beB_small _ _ x hx
 ·exact beB_small _ _ x hx
 ·exact beB_small _ _ x hx
 ·simp at hx; omega
 ·exact beB_small _ _ x hx
 ·exact beB_small _ _ x hx
def builtF (h : HArg) : List Nat := ((preF h).set 10 (netF (preF h) / 256).toNat).set 11 (netF (preF h) % 256).toNat
theorem builtF_length (h : HArg) : (builtF h).length = 20 := by simp [builtF, preF_length]
theorem builtF_small (h : HArg) : ∀ x ∈ builtF h, x < 256 := by
 have hn := netF_le (preF h)
 intro x hx
 rcases List.mem_or_eq_of_mem_set hx with h1 | h1
 ·rcases List.mem_or_eq_of_mem_set h1 with h2 | h2
  ·exact preF_small h x h2
  ·omega
 ·omega
theorem acells_of {w : World} {B : Nat} {h : HArg} (hb : w.heap[B]? = some (.cells (acs h) 76 (0, 0))) :
 w.cell? ⟨B, 1, none⟩ = some (.int .i64 h.tos) ∧ w.cell? ⟨B, 2, none⟩ = some (.int .i64 h.len) ∧ w.cell? ⟨B, 3, none⟩ = some (.int .i64 h.id) ∧
 w.cell? ⟨B, 4, none⟩ = some (.int .i64 h.flags) ∧ w.cell? ⟨B, 5, none⟩ = some (.int .i64 h.off) ∧ w.cell? ⟨B, 6, none⟩ = some (.int .i64 h.ttl) ∧ w.cell? ⟨B, 7, none⟩ = some (.int .i64 h.proto) ∧
 w.cell? ⟨B, 9, none⟩ = some (.int .u32 h.src) ∧ w.cell? ⟨B, 10, none⟩ = some (.int .u32 h.dst) :=
 ⟨cell_of_cells hb 1, cell_of_cells hb 2, cell_of_cells hb 3, cell_of_cells hb 4, cell_of_cells hb 5, cell_of_cells hb 6, cell_of_cells hb 7, cell_of_cells hb 9, cell_of_cells hb 10⟩
theorem be69 : beB 1 (u64N 69) = [69] := by decide
theorem be00 : beB 2 (u64N 0) = [0, 0] := by decide
set_option maxRecDepth 20000 in
set_option maxHeartbeats 8000000 in
theorem build_any (h : HArg) (ok : h.Ok) (w : World) :
 Calls Tryz.prog 82 #[.agg (acs h)] w fun e w' => ∃ a' cap', e = .returned (.slice a' 20 cap') ∧ FreshB w w' (.slice a' 20 cap') (builtF h) := by
 obtain ⟨W1, hW1⟩ : ∃ W, w.alloc (.cells (acs h) 76) = W := ⟨_, rfl⟩
 have t1 : Touch w W1 (fun _ => False) := hW1 ▸ (Touch.refl _ _).alloc _
 have HH1 : RowKit.Hid (W1.heap[w.heap.size]? = some (.cells (acs h) 76 (0, 0))) := Lib.hid (hW1 ▸ heap_alloc_new w _)
 have H2 := Lib.hid (WrE.fresh W1)
 have hsz : W1.heap.size = w.heap.size + 1 := by rw [← hW1]; simp
 have HSZ := Lib.hid hsz
 obtain ⟨o0, o1, o2, o3, o4, o5, o6, o7, o8, o9, o10⟩ := ok
 simp only [isI64] at o0 o1 o2 o3 o4 o5 o6 o7 o8
 have m7 : bits BinOp.and IntKind.i64 h.flags 7 = h.flags % 8 := mask_i64 _ 3 (by decide) 7 rfl
 have m13 : bits BinOp.and IntKind.i64 h.off 8191 = h.off % 8192 := mask_i64 _ 13 (by decide) 8191 rfl
 have mo : bits BinOp.or IntKind.i64 (h.flags % 8 * 8192) (h.off % 8192) = h.flags % 8 * 8192 + h.off % 8192 := or_i64 _ _ 13 (by omega) (by omega) (by omega) (by omega) (by omega) (by omega)
 clear hsz
 simp only [acs] at hW1
 simp only [acs]
 go_enter Tryz.func82, Tryz.ntmps82
 go_wp2_with fail
 have HW := H2
 have HB : RowKit.Hid (Below W1.heap.size W1 (W1.alloc (.cells #[.slice none 0 0] 176))) := Lib.hid ((Below.refl _ _).alloc (Nat.le_refl _) _)
 have HH1 := Lib.hid ((HB.out.block w.heap.size (by have := HSZ.out; omega)).trans HH1.out)
 obtain ⟨c1, c2, c3, c4, c5, c6, c7, c9, c10⟩ := acells_of HH1.out
 go_wp2_with (first
  | (go_at_call 115; refine (e_wU8 _ _ _ _ _ HW.out (by omega) (by simp [beB_length])).mono ?_; rintro e w9 ⟨rfl, hw9, hb9⟩; have HW := Lib.hid hw9; have HB := Lib.hid (HB.out.trans hb9); have HH1 := Lib.hid ((hb9.block w.heap.size (by have := HSZ.out; omega)).trans HH1.out); clear c1 c2 c3 c4 c5 c6 c7 c9 c10 hw9 hb9; obtain ⟨c1, c2, c3, c4, c5, c6, c7, c9, c10⟩ := acells_of HH1.out)
  | (go_at_call 116; refine (e_wU16 _ _ _ _ _ HW.out (by omega) (by simp [beB_length])).mono ?_; rintro e w9 ⟨rfl, hw9, hb9⟩; have HW := Lib.hid hw9; have HB := Lib.hid (HB.out.trans hb9); have HH1 := Lib.hid ((hb9.block w.heap.size (by have := HSZ.out; omega)).trans HH1.out); clear c1 c2 c3 c4 c5 c6 c7 c9 c10 hw9 hb9; obtain ⟨c1, c2, c3, c4, c5, c6, c7, c9, c10⟩ := acells_of HH1.out)
  | (go_at_call 117; refine (e_wU32 _ _ _ _ _ HW.out (by omega) (by simp [beB_length])).mono ?_; rintro e w9 ⟨rfl, hw9, hb9⟩; have HW := Lib.hid hw9; have HB := Lib.hid (HB.out.trans hb9); have HH1 := Lib.hid ((hb9.block w.heap.size (by have := HSZ.out; omega)).trans HH1.out); clear c1 c2 c3 c4 c5 c6 c7 c9 c10 hw9 hb9; obtain ⟨c1, c2, c3, c4, c5, c6, c7, c9, c10⟩ := acells_of HH1.out))
 have hpre : [] ++ beB 1 (u64N 69) ++ beB 1 (u64N h.tos) ++ beB 2 (u64N h.len) ++ beB 2 (u64N h.id) ++ beB 2 (u64N (h.flags % 8 * 8192 + h.off % 8192)) ++ beB 1 (u64N h.ttl) ++ beB 1 (u64N h.proto) ++ beB 2 (u64N 0) ++ beB 4 (u64N h.src) ++ beB 4 (u64N h.dst) = preF h := by
  rw [be69, be00, List.nil_append]; rfl
 have hw := HW.out
 rw [hpre] at hw
 have T9 : Touch w w9 (fun _ => False) := t1.trans (Touch.ofBelow (S := fun k => w.heap.size < k) HB.out (fun k h1 _ => by have := HSZ.out; omega)) (fun k h1 h2 => by omega)
 have hpl := preF_length h
 have hnl := netF_le (preF h)
 have HPL := Lib.hid hpl
 clear hpre HW HB HH1 c1 c2 c3 c4 c5 c6 c7 c9 c10 H2 hW1 t1 hpl
 refine (e_wBytes _ _ _ _ hw (by rw [HPL.out]; omega) 20 HPL.out).mono ?_
 rintro e w10 ⟨a, cap, rfl, hf⟩
 obtain ⟨hown, t10⟩ := hf
 obtain ⟨a2, c2, hv, hrow, hp⟩ := hown.row
 rw [HPL.out] at hv hrow
 simp only [Value.slice.injEq, true_and] at hv
 obtain ⟨rfl, rfl⟩ := hv
 obtain ⟨b, off, rfl⟩ := hrow.some (by omega)
 obtain hp | ⟨g, hp, hg1, hg2⟩ := hp
 ·cases hp
 simp only [Option.some.injEq, Addr.mk.injEq] at hp
 obtain ⟨rfl, rfl, -⟩ := hp
 have HO := Lib.hid hown
 have hle := hrow.2.1
 clear hown hw
 go_wp2_with fail
 refine (net_any _ _ _ (preF h) _ hrow).mono ?_
 rintro e w11 ⟨rfl, n, rfl⟩
 have ho1 := HO.out.drewN n
 have hx1 : (netF (preF h) / 256).toNat < 256 := by omega
 have hx2 : (netF (preF h) % 256).toNat < 256 := by omega
 have ho2 := ho1.stored HPL.out 10 _ hx1
 have hl2 : ((preF h).set 10 (netF (preF h) / 256).toNat).length = 20 := by simp [HPL.out]
 have ho3 := ho2.stored hl2 11 _ hx2
 have fr1 := ho1.free HPL.out
 have f1 := fr1 10
 have f2 := fr1 11
 have g1 := ho1.at HPL.out 10 (by omega) (by rw [HPL.out]; omega)
 have g2 := ho1.at HPL.out 11 (by omega) (by rw [HPL.out]; omega)
 have HO3 := Lib.hid ho3
 have T9s := Lib.hid T9.size
 have T11 := Lib.hid ((T9.trans t10 (fun _ _ h => h)).drewN n)
 have i1 : (10 : Int) < 20 := by omega
 clear ho1 ho2 ho3 fr1 hl2 T9 t10 hrow
 have HB0 : RowKit.Hid (builtF h = ((preF h).set 10 (netF (preF h) / 256).toNat).set 11 (netF (preF h) % 256).toNat) := Lib.hid rfl
 generalize netF (preF h) = N at *
 go_wp2_with fail
 go_ret
 have h3 := HO3.out
 rw [show (((N / 256).toNat : Nat) : Int) = N / 256 from by omega, show (((N % 256).toNat : Nat) : Int) = N % 256 from by omega] at h3
 have hw9 : w.heap.size ≤ w9.heap.size := T9s.out
 refine ⟨some ⟨b, 0, none⟩, cap, rfl, ?_, ?_⟩
 ·rw [HB0.out]
  exact h3.base (fun k hk => by simp [Value.ownBlock] at hk; omega)
 ·have hb : b < w.heap.size → False := fun h => by omega
  exact (T11.out.setCell ⟨b, 10, none⟩ _ hb).setCell ⟨b, 11, none⟩ _ hb
end Go.Proofs.YtpjdcgjoepjmcaaGreat
