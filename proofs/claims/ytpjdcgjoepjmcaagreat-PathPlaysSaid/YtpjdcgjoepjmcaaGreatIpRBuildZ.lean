import Derived.Test.YtpjdcgjoepjmcaaGreatIpBuildZ
import Derived.Test.YtpjdcgjoepjmcaaGreatGBZ
import Derived.Test.YtpjdcgjoepjmcaaGreatGAZ
import Derived.Deep.DeepCutAuto
set_option linter.unusedVariables false
namespace Go.Proofs.YtpjdcgjoepjmcaaGreat
open Go.RowKit
def BldAt (w : World) (h : HArg) (n : Nat) (xs : List Nat) (s : Value) (wx : World) : Prop :=
 ∃ a c, s = .slice a n c ∧ OwnB wx (w.heap.size + 1) 5 (.slice a n c) xs ∧ Touch w wx (fun _ => False) ∧ wx.heap[w.heap.size]? = some (.cells (acs h) 76 (0, 0))
theorem ref_row {n : Int} {w w' : World} {a : Option Addr} {k c : Nat} {xs : List Nat} (h : FreshB w w' (.slice a k c) xs) (hk : xs.length = k) : RowB w' a k c xs ∧ (∀ x, a = some x → w.heap.size ≤ x.block) := by
 obtain ⟨a2, c2, hv, hr, hp⟩ := h.1.row
 rw [hk] at hv hr
 simp only [Value.slice.injEq, true_and] at hv
 obtain ⟨rfl, rfl⟩ := hv
 refine ⟨hr, fun x hx => ?_⟩
 rcases hp with h1 | ⟨g, h1, h2, _⟩
 ·rw [hx] at h1; cases h1
 ·rw [hx] at h1; cases h1; exact h2
set_option maxRecDepth 20000 in
set_option maxHeartbeats 8000000 in
theorem rbuild_any (h : HArg) (ok : h.Ok) (w : World) :
 Calls Tryz.prog 64 #[.agg (acs h)] w fun e w' => ∃ a' cap', e = .returned (.slice a' 20 cap') ∧ FreshB w w' (.slice a' 20 cap') (builtF h) := by
 obtain ⟨W1, hW1⟩ : ∃ W, w.alloc (.cells (acs h) 76) = W := ⟨_, rfl⟩
 have t1 : Touch w W1 (fun _ => False) := hW1 ▸ (Touch.refl _ _).alloc _
 have HH1 : RowKit.Hid (W1.heap[w.heap.size]? = some (.cells (acs h) 76 (0, 0))) := Lib.hid (hW1 ▸ heap_alloc_new w _)
 have hsz : W1.heap.size = w.heap.size + 1 := by rw [← hW1]; simp
 have HSZ := Lib.hid hsz
 have HT1 := Lib.hid t1
 obtain ⟨o0, o1, o2, o3, o4, o5, o6, o7, o8, o9, o10⟩ := ok
 simp only [isI64] at o0 o1 o2 o3 o4 o5 o6 o7 o8
 have m7 : bits BinOp.and IntKind.i64 h.flags 7 = h.flags % 8 := mask_i64 _ 3 (by decide) 7 rfl
 have m13 : bits BinOp.and IntKind.i64 h.off 8191 = h.off % 8192 := mask_i64 _ 13 (by decide) 8191 rfl
 have mo : bits BinOp.or IntKind.i64 (h.flags % 8 * 8192) (h.off % 8192) = h.flags % 8 * 8192 + h.off % 8192 := or_i64 _ _ 13 (by omega) (by omega) (by omega) (by omega) (by omega) (by omega)
 clear hsz t1
 have HW1 := Lib.hid hW1
 clear hW1
 simp only [acs] at HW1 ⊢
 go_enter Tryz.func64, Tryz.ntmps64
 go_upto_region 2 with fail
 rw [HW1.out]
 go_cut [3] (fun s3 wx => BldAt w h 6 ([69] ++ beB 1 (u64N h.tos) ++ beB 2 (u64N h.len) ++ beB 2 (u64N h.id)) s3 wx)
 case first =>
  go_wp2_with fail
  have hB2 : ([Value.int .u8 69, Value.int .u8 (h.tos % 256)] : List Value) = ([69] ++ beB 1 (u64N h.tos)).map cellB := by
   simp [beB, List.range_succ, cellB, u64N]; omega
  have hown := OwnB.lit W1 (w.heap.size + 1) HSZ.out.symm (w.heap.size + 1) (Nat.le_refl _) 5 #[.int .u8 69, .int .u8 (h.tos % 256)] 2 ([69] ++ beB 1 (u64N h.tos)) hB2 (by simp [beB_length]) (by intro x hx; rcases List.mem_append.1 hx with h1 | h1; (simp at h1; omega); exact beB_small _ _ x h1) (by omega)
  have t2 := ((Touch.refl W1 (fun _ => False)).alloc (.cells #[.int .u8 69, .int .u8 (h.tos % 256)] 5)).drew
  have HO := Lib.hid (hown.drewN 1)
  have HT := Lib.hid (HT1.out.trans t2 (fun _ _ h => h))
  have HH := Lib.hid (t2.keeps HH1.out (fun h => h))
  obtain ⟨c1, c2, c3, c4, c5, c6, c7, c9, c10⟩ := acells_of HH1.out
  have hlt1 := heap_lt HH1.out
  clear hB2 hown t2
  go_region_law (first | (have _u := HO13; refine step_appendB rfl _ _ 38 rfl 5 Tryz.underlying38 infoB (w.heap.size + 1) (.slice a13 4 d13) _ rfl HO.out _ _ _ (beB 2 (u64N h.id)) rfl HR.out 6 ([69] ++ beB 1 (u64N h.tos) ++ beB 2 (u64N h.len) ++ beB 2 (u64N h.id)) rfl (by simp [beB_length]) (by omega) (heap_lt HH.out) ?_; intro a17 d17 w17 hown hrow hg hpl; have HT := Lib.hid (HT.out.grown hg (fun k hk hlt => by have := (HO.out.own.lt k hk).1; omega)); have HH := Lib.hid ((hg.block w.heap.size (heap_lt HH.out) (fun e => by have := (HO.out.own.lt _ e.symm).1; omega)).trans HH.out); have HO := Lib.hid hown; have HO17 := HO; obtain ⟨c1, c2, c3, c4, c5, c6, c7, c9, c10⟩ := acells_of HH.out; clear hown hrow hg hpl) | (have _u := HO; refine step_appendB rfl _ _ 38 rfl 5 Tryz.underlying38 infoB (w.heap.size + 1) (.slice (some ⟨w.heap.size + 1, 0, none⟩) 2 2) _ rfl HO.out _ _ _ (beB 2 (u64N h.len)) rfl HR.out 4 ([69] ++ beB 1 (u64N h.tos) ++ beB 2 (u64N h.len)) rfl (by simp [beB_length]) (by omega) (heap_lt HH.out) ?_; intro a13 d13 w13 hown hrow hg hpl; have HT := Lib.hid (HT.out.grown hg (fun k hk hlt => by have := (HO.out.own.lt k hk).1; omega)); have HH := Lib.hid ((hg.block w.heap.size (heap_lt HH.out) (fun e => by have := (HO.out.own.lt _ e.symm).1; omega)).trans HH.out); have HO := Lib.hid hown; have HO13 := HO; obtain ⟨c1, c2, c3, c4, c5, c6, c7, c9, c10⟩ := acells_of HH.out; clear hown hrow hg hpl) | (go_simp; go_at_call_of 96 (Value.int .i64 h.len); (with_reducible refine (ref_u16 h.len _ o2).mono ?_); rintro e w12 ⟨a12, d12, rfl, hf12⟩; have hq := ref_row (n := 0) hf12 (beB_length _ _); have t12 := hf12.2; have HO := Lib.hid (HO.out.touch t12 (fun _ _ h => h)); have HT := Lib.hid (HT.out.trans t12 (fun _ _ h => h)); have HH := Lib.hid (t12.keeps HH.out (fun h => h)); have HR := Lib.hid hq.1; obtain ⟨c1, c2, c3, c4, c5, c6, c7, c9, c10⟩ := acells_of HH.out; clear hf12 hq t12) | (go_simp; go_at_call_of 96 (Value.int .i64 h.id); (with_reducible refine (ref_u16 h.id _ o3).mono ?_); rintro e w16 ⟨a16, d16, rfl, hf16⟩; have hq := ref_row (n := 0) hf16 (beB_length _ _); have t16 := hf16.2; have HO := Lib.hid (HO.out.touch t16 (fun _ _ h => h)); have HT := Lib.hid (HT.out.trans t16 (fun _ _ h => h)); have HH := Lib.hid (t16.keeps HH.out (fun h => h)); have HR := Lib.hid hq.1; obtain ⟨c1, c2, c3, c4, c5, c6, c7, c9, c10⟩ := acells_of HH.out; clear hf16 hq t16))
  all_goals (go_wp2_with fail; go_meet; exact ⟨_, _, rfl, HO.out, HT.out, HH.out⟩)
 case rest =>
  obtain ⟨a3, d3, rfl, ho, ht, hh⟩ := hcut
  have HO := Lib.hid ho
  have HT := Lib.hid ht
  have HH := Lib.hid hh
  clear ho ht hh
  have hB4 : ([Value.int .u8 (h.ttl % 256), Value.int .u8 (h.proto % 256), Value.int .u8 0, Value.int .u8 0] : List Value) = (beB 1 (u64N h.ttl) ++ beB 1 (u64N h.proto) ++ [0, 0]).map cellB := by
   simp [beB, List.range_succ, cellB, u64N]; omega
  have HB4 := Lib.hid hB4
  have HSM : RowKit.Hid (∀ x ∈ beB 1 (u64N h.ttl) ++ beB 1 (u64N h.proto) ++ [0, 0], x < 256) := Lib.hid (by
   intro x hx
   rcases List.mem_append.1 hx with h1 | h1
   ·rcases List.mem_append.1 h1 with h2 | h2 <;> exact beB_small _ _ x h2
   ·simp at h1; omega)
  have HRL := fun (W : World) => RowB.new W _ rfl #[.int .u8 (h.ttl % 256), .int .u8 (h.proto % 256), .int .u8 0, .int .u8 0] 5 (0, 0) 4 (beB 1 (u64N h.ttl) ++ beB 1 (u64N h.proto) ++ [0, 0]) (by simp [beB_length]) (by omega) HSM.out (by
   intro i hi
   have := congrArg (fun l : List Value => l[i]?) HB4.out
   simp only [List.getElem?_map, List.getElem?_eq_getElem hi] at this
   simpa [cellB] using this)
  have HRL' := Lib.hid HRL
  clear hB4 HRL
  obtain ⟨c1, c2, c3, c4, c5, c6, c7, c9, c10⟩ := acells_of HH.out
  go_upto_region 5 with (first
   | (at_builtin; have _u := HO8; refine wpList_appendB rfl _ _ 38 rfl 5 Tryz.underlying38 infoB (w.heap.size + 1) (.slice a8 8 d8) _ rfl (HO.out.touch ((Touch.refl _ (fun _ => False)).alloc _) (fun _ _ h => h)) _ _ _ (beB 1 (u64N h.ttl) ++ beB 1 (u64N h.proto) ++ [0, 0]) rfl (HRL'.out _) 12 ([69] ++ beB 1 (u64N h.tos) ++ beB 2 (u64N h.len) ++ beB 2 (u64N h.id) ++ beB 2 (u64N (h.flags % 8 * 8192 + h.off % 8192)) ++ (beB 1 (u64N h.ttl) ++ beB 1 (u64N h.proto) ++ [0, 0])) rfl (by simp [beB_length]) (by omega) (by have := heap_lt HH.out; simp; omega) w.heap.size w ((HT.out.alloc _).below (fun _ _ h => h.elim) (Nat.le_refl _)) (Nat.le_succ _) ?_; intro a12 d12 w12 hown hrow hg hb hs hp hpl; have HT := Lib.hid (Touch.ofBelow (S := fun _ => False) hb (fun k h1 h2 => by omega)); have HH := Lib.hid ((hg.block w.heap.size (by have := heap_lt HH.out; simp; omega) (fun e => by have := (HO.out.own.lt _ e.symm).1; omega)).trans ((Below.heap_alloc _ _ _ (heap_lt HH.out)).trans HH.out)); have HO := Lib.hid hown; have HO12 := HO; obtain ⟨c1, c2, c3, c4, c5, c6, c7, c9, c10⟩ := acells_of HH.out; clear hown hrow hg hb hs hp hpl)
   | (at_builtin; have _u := HR; refine wpList_appendB rfl _ _ 38 rfl 5 Tryz.underlying38 infoB (w.heap.size + 1) (.slice a3 6 d3) _ rfl HO.out _ _ _ (beB 2 (u64N (h.flags % 8 * 8192 + h.off % 8192))) rfl HR.out 8 ([69] ++ beB 1 (u64N h.tos) ++ beB 2 (u64N h.len) ++ beB 2 (u64N h.id) ++ beB 2 (u64N (h.flags % 8 * 8192 + h.off % 8192))) rfl (by simp [beB_length]) (by omega) (heap_lt HH.out) w.heap.size w (HT.out.below (fun _ _ h => h.elim) (Nat.le_refl _)) (Nat.le_succ _) ?_; intro a8 d8 w8 hown hrow hg hb hs hp hpl; have HT := Lib.hid (Touch.ofBelow (S := fun _ => False) hb (fun k h1 h2 => by omega)); have HH := Lib.hid ((hg.block w.heap.size (heap_lt HH.out) (fun e => by have := (HO.out.own.lt _ e.symm).1; omega)).trans HH.out); have HO := Lib.hid hown; have HO8 := HO; obtain ⟨c1, c2, c3, c4, c5, c6, c7, c9, c10⟩ := acells_of HH.out; clear hown hrow hg hb hs hp hpl)
   | (go_at_call 96; (with_reducible refine (ref_u16 (h.flags % 8 * 8192 + h.off % 8192) _ (by omega)).mono ?_); rintro e w7 ⟨a7, d7, rfl, hf7⟩; have hq := ref_row (n := 0) hf7 (beB_length _ _); have t7 := hf7.2; have HO := Lib.hid (HO.out.touch t7 (fun _ _ h => h)); have HT := Lib.hid (HT.out.trans t7 (fun _ _ h => h)); have HH := Lib.hid (t7.keeps HH.out (fun h => h)); have HR := Lib.hid hq.1; obtain ⟨c1, c2, c3, c4, c5, c6, c7, c9, c10⟩ := acells_of HH.out; clear hf7 hq t7))
  have hpre : [69] ++ beB 1 (u64N h.tos) ++ beB 2 (u64N h.len) ++ beB 2 (u64N h.id) ++ beB 2 (u64N (h.flags % 8 * 8192 + h.off % 8192)) ++ (beB 1 (u64N h.ttl) ++ beB 1 (u64N h.proto) ++ [0, 0]) ++ beB 4 (u64N h.src) ++ beB 4 (u64N h.dst) = preF h := by simp only [preF, List.append_assoc]
  have HPRE := Lib.hid hpre
  clear hpre
  go_cut [3] (fun s3 wx => BldAt w h 20 (preF h) s3 wx)
  case first =>
   go_wp2_with fail
   have t0 := (Touch.refl w12 (fun _ => False)).drew
   have HO := Lib.hid (HO.out.drewN 1)
   have HT := Lib.hid (HT.out.trans t0 (fun _ _ h => h))
   have HH := Lib.hid (t0.keeps HH.out (fun h => h))
   clear t0
   go_region_law (first | (have _u := HO42; refine step_appendB rfl _ _ 38 rfl 5 Tryz.underlying38 infoB (w.heap.size + 1) (.slice a42 16 d42) _ rfl HO.out _ _ _ (beB 4 (u64N h.dst)) rfl HR.out 20 ([69] ++ beB 1 (u64N h.tos) ++ beB 2 (u64N h.len) ++ beB 2 (u64N h.id) ++ beB 2 (u64N (h.flags % 8 * 8192 + h.off % 8192)) ++ (beB 1 (u64N h.ttl) ++ beB 1 (u64N h.proto) ++ [0, 0]) ++ beB 4 (u64N h.src) ++ beB 4 (u64N h.dst)) rfl (by simp [beB_length]) (by omega) (heap_lt HH.out) ?_; intro a46 d46 w46 hown hrow hg hpl; have HT := Lib.hid (HT.out.grown hg (fun k hk hlt => by have := (HO.out.own.lt k hk).1; omega)); have HH := Lib.hid ((hg.block w.heap.size (heap_lt HH.out) (fun e => by have := (HO.out.own.lt _ e.symm).1; omega)).trans HH.out); have HO := Lib.hid hown; have HO46 := HO; obtain ⟨c1, c2, c3, c4, c5, c6, c7, c9, c10⟩ := acells_of HH.out; clear hown hrow hg hpl) | (have _u := HR41; refine step_appendB rfl _ _ 38 rfl 5 Tryz.underlying38 infoB (w.heap.size + 1) (.slice a12 12 d12) _ rfl HO.out _ _ _ (beB 4 (u64N h.src)) rfl HR.out 16 ([69] ++ beB 1 (u64N h.tos) ++ beB 2 (u64N h.len) ++ beB 2 (u64N h.id) ++ beB 2 (u64N (h.flags % 8 * 8192 + h.off % 8192)) ++ (beB 1 (u64N h.ttl) ++ beB 1 (u64N h.proto) ++ [0, 0]) ++ beB 4 (u64N h.src)) rfl (by simp [beB_length]) (by omega) (heap_lt HH.out) ?_; intro a42 d42 w42 hown hrow hg hpl; have HT := Lib.hid (HT.out.grown hg (fun k hk hlt => by have := (HO.out.own.lt k hk).1; omega)); have HH := Lib.hid ((hg.block w.heap.size (heap_lt HH.out) (fun e => by have := (HO.out.own.lt _ e.symm).1; omega)).trans HH.out); have HO := Lib.hid hown; have HO42 := HO; obtain ⟨c1, c2, c3, c4, c5, c6, c7, c9, c10⟩ := acells_of HH.out; clear hown hrow hg hpl) | (go_simp; go_at_call_of 97 (Value.int .u32 h.src); (with_reducible refine (ref_u32 h.src _ o9).mono ?_); rintro e w41 ⟨a41, d41, rfl, hf41⟩; have hq := ref_row (n := 0) hf41 (beB_length _ _); have t41 := hf41.2; have HO := Lib.hid (HO.out.touch t41 (fun _ _ h => h)); have HT := Lib.hid (HT.out.trans t41 (fun _ _ h => h)); have HH := Lib.hid (t41.keeps HH.out (fun h => h)); have HR := Lib.hid hq.1; have HR41 := HR; obtain ⟨c1, c2, c3, c4, c5, c6, c7, c9, c10⟩ := acells_of HH.out; clear hf41 hq t41) | (go_simp; go_at_call_of 97 (Value.int .u32 h.dst); (with_reducible refine (ref_u32 h.dst _ o10).mono ?_); rintro e w45 ⟨a45, d45, rfl, hf45⟩; have hq := ref_row (n := 0) hf45 (beB_length _ _); have t45 := hf45.2; have HO := Lib.hid (HO.out.touch t45 (fun _ _ h => h)); have HT := Lib.hid (HT.out.trans t45 (fun _ _ h => h)); have HH := Lib.hid (t45.keeps HH.out (fun h => h)); have HR := Lib.hid hq.1; obtain ⟨c1, c2, c3, c4, c5, c6, c7, c9, c10⟩ := acells_of HH.out; clear hf45 hq t45))
   all_goals (go_wp2_with fail; go_meet; exact ⟨_, _, rfl, HPRE.out ▸ HO.out, HT.out, HH.out⟩)
  case rest =>
   obtain ⟨a5, d5, rfl, ho, ht, hh⟩ := hcut
   have hpl := preF_length h
   have hnl := netF_le (preF h)
   have HPL := Lib.hid hpl
   obtain ⟨a6, d6, hv, hrow, hp⟩ := ho.row
   rw [hpl] at hv hrow
   simp only [Value.slice.injEq, true_and] at hv
   obtain ⟨rfl, rfl⟩ := hv
   obtain ⟨b, off, rfl⟩ := hrow.some (by omega)
   obtain hp | ⟨g, hp, hg1, hg2⟩ := hp
   ·cases hp
   simp only [Option.some.injEq, Addr.mk.injEq] at hp
   obtain ⟨rfl, rfl, -⟩ := hp
   have HO := Lib.hid ho
   have HT := Lib.hid ht
   have hle := hrow.2.1
   clear ho ht hh hpl HPRE HB4 HSM HRL' c1 c2 c3 c4 c5 c6 c7 c9 c10
   go_wp2_with fail
   (with_reducible refine (rnet_any _ _ _ (preF h) _ hrow).mono ?_)
   rintro e w11 ⟨rfl, n, rfl⟩
   have ho1 := HO.out.drewN n
   have hx1 : (netF (preF h) / 256).toNat < 256 := by omega
   have hx2 : (netF (preF h) % 256).toNat < 256 := by omega
   have ho2 := ho1.stored HPL.out 10 _ hx1
   have hl2 : ((preF h).set 10 (netF (preF h) / 256).toNat).length = 20 := by simp [HPL.out]
   have ho3 := ho2.stored hl2 11 _ hx2
   have fr1 := ho1.free HPL.out
   have f1 := fr1 10
   have f2 := fr1 11
   have g1 := ho1.at HPL.out 10 (by omega) (by rw [HPL.out]; omega)
   have g2 := ho1.at HPL.out 11 (by omega) (by rw [HPL.out]; omega)
   have HO3 := Lib.hid ho3
   have T11 := Lib.hid (HT.out.drewN n)
   have i1 : (10 : Int) < 20 := by omega
   clear ho1 ho2 ho3 fr1 hl2 hrow
   have HB0 : RowKit.Hid (builtF h = ((preF h).set 10 (netF (preF h) / 256).toNat).set 11 (netF (preF h) % 256).toNat) := Lib.hid rfl
   generalize netF (preF h) = N at *
   go_wp2_with fail
   go_ret
   have h3 := HO3.out
   rw [show (((N / 256).toNat : Nat) : Int) = N / 256 from by omega, show (((N % 256).toNat : Nat) : Int) = N % 256 from by omega] at h3
   refine ⟨some ⟨b, 0, none⟩, d5, rfl, ?_, ?_⟩
   ·rw [HB0.out]
    exact h3.base (fun k hk => by simp [Value.ownBlock] at hk; omega)
   ·have hb : b < w.heap.size → False := fun h => by omega
    exact (T11.out.setCell ⟨b, 10, none⟩ _ hb).setCell ⟨b, 11, none⟩ _ hb
end Go.Proofs.YtpjdcgjoepjmcaaGreat
