import Derived.Test.YtpjdcgjoepjmcaaGreatKFZ
import Derived.Test.YtpjdcgjoepjmcaaGreatIpRBuildZ
import Derived.Test.YtpjdcgjoepjmcaaGreatGBZ
set_option linter.unusedVariables false
section
namespace Go.Proofs.YtpjdcgjoepjmcaaGreat
open Go.RowKit
set_option maxRecDepth 20000 in
set_option maxHeartbeats 4000000 in
theorem ends_bad (k : KArg) (a : Option Addr) (len cap : Nat) (xs : List Nat) (w : World) (hr : RowB w a len cap xs) (hy : whyT xs ≠ 0) :
 Calls Tryz.prog 51 #[.agg (kcs k), .slice a len cap] w fun e w' => e = .returned (.bool false) ∧ Touch w w' (fun _ => False) := by
 obtain ⟨W1, hW1⟩ : ∃ W, w.alloc (.cells (kcs k) 37) = W := ⟨_, rfl⟩
 have t1 : Touch w W1 (fun _ => False) := hW1 ▸ (Touch.refl _ _).alloc _
 have H := Lib.hid (tuple_any a len cap xs W1 (hr.touch t1 (fun _ _ => .inr (fun h => h))))
 have hy2 : ((whyT xs : Int) != 0) = true := bne_iff_ne.2 (by omega)
 generalize tellT xs = T at *
 generalize tellG xs = G at *
 generalize whyT xs = y at *
 have T1 := Lib.hid t1
 clear hr t1
 simp only [kcs] at hW1 ⊢
 go_enter Tryz.func51, Tryz.ntmps51
 go_wp2_with fail
 (with_reducible refine H.out.mono ?_)
 rintro e w2 ⟨rfl, t2⟩
 have TT := Lib.hid (T1.out.trans t2 (fun _ _ h => h))
 clear H t2 hW1
 simp only [tv, tcsP, hv]
 go_wp2_with fail
 go_ret
 exact ⟨rfl, (TT.out.alloc _).alloc _⟩
theorem tcp_long {xs : List Nat} (h : whyT xs = 0) (hp : (tellT xs).proto = 6) : 4 * (tellG xs).ihl + 20 ≤ xs.length ∧ (tellG xs).ihl < 16 := by
 have hf : whyF xs = 0 := by
  unfold whyT at h
  by_cases hf : whyF xs = 0
  ·exact hf
  ·rw [if_neg hf] at h; exact h
 have e1 : (tellT xs).proto = (tellH xs).proto := by unfold tellT; rw [if_pos h]
 have e2 : tellG xs = tellH xs := by unfold tellG; rw [if_pos h]
 have e3 : tellH xs = hdr xs := by unfold tellH; rw [if_pos hf]
 rw [e1] at hp
 have hr : refF (tellH xs).flags (tellH xs).off (tellH xs).proto (tellY xs) = 0 := by unfold whyT at h; rwa [if_pos hf] at h
 rw [hp] at hr
 have hy : 20 ≤ (tellY xs).length := by
  unfold refF at hr
  by_cases h1 : wholeB (tellH xs).flags (tellH xs).off = false
  ·rw [if_pos h1] at hr; omega
  ·rw [if_neg h1, if_neg (by omega)] at hr
   by_cases h2 : tcpB (tellY xs) = false
   ·rw [if_pos ⟨rfl, h2⟩] at hr; omega
   ·unfold tcpB at h2
    by_cases h3 : (tellY xs).length < 20
    ·rw [if_pos h3] at h2; exact absurd rfl h2
    ·omega
 unfold tellY at hy
 rw [if_pos hf] at hy
 obtain ⟨z1, z2, z3, z4, z5, z6, z7⟩ := why_zero hf
 rw [e2, e3]
 refine ⟨?_, ?_⟩
 ·simp at hy; omega
 ·show gb xs 0 % 16 < 16; omega
def isK (T : Tup) (k : KArg) : Prop := (T.src : Int) = k.src ∧ (T.dst : Int) = k.dst ∧ (T.proto : Int) = k.proto ∧ (T.sport : Int) = k.sport ∧ (T.dport : Int) = k.dport
set_option maxRecDepth 20000 in
set_option maxHeartbeats 4000000 in
theorem ends_ok (k : KArg) (a : Option Addr) (len cap : Nat) (xs : List Nat) (w : World) (hr : RowB w a len cap xs) (hy : whyT xs = 0) :
 Calls Tryz.prog 51 #[.agg (kcs k), .slice a len cap] w fun e w' => ∃ v : Bool, e = .returned (.bool v) ∧ (v = true ↔ (isK (tellT xs) k ∧ k.proto = 6 ∧ bits BinOp.and IntKind.u8 (gb xs (4 * (tellG xs).ihl + 13) : Nat) 5 ≠ 0)) ∧ Touch w w' (fun _ => False) := by
 obtain ⟨W1, hW1⟩ : ∃ W, w.alloc (.cells (kcs k) 37) = W := ⟨_, rfl⟩
 have t1 : Touch w W1 (fun _ => False) := hW1 ▸ (Touch.refl _ _).alloc _
 have hk : W1.heap[w.heap.size]? = some _ := hW1 ▸ heap_alloc_new w _
 have hr1 := hr.touch t1 (fun _ _ => .inr (fun h => h))
 have H := Lib.hid (tuple_any a len cap xs W1 hr1)
 have hy2 : ((whyT xs : Int) != 0) = false := by simp [hy]
 have hl := @tcp_long xs hy
 have hx := hr.1
 generalize tellT xs = T at *
 generalize tellG xs = G at *
 generalize whyT xs = y at *
 have T1 := Lib.hid t1
 have HK := Lib.hid hk
 have HR := Lib.hid hr1
 have HL := Lib.hid hl
 have HX := Lib.hid hx
 clear hr t1 hk hr1 hl hx
 simp only [kcs] at hW1 ⊢
 go_enter Tryz.func51, Tryz.ntmps51
 go_wp2_with fail
 (with_reducible refine H.out.mono ?_)
 rintro e w2 ⟨rfl, t2⟩
 have TT := Lib.hid (T1.out.trans t2 (fun _ _ h => h))
 have hk2 := t2.keeps HK.out (fun h => h)
 have HR := Lib.hid (HR.out.touch t2 (fun _ _ => .inr (fun h => h)))
 have k0 := cell_of_cells hk2 0
 have k1 := cell_of_cells hk2 1
 have k2 := cell_of_cells hk2 2
 have k3 := cell_of_cells hk2 3
 have k4 := cell_of_cells hk2 4
 simp [kcs] at k0 k1 k2 k3 k4
 have hlt := heap_lt hk2
 clear H t2 hW1 hk2
 simp only [tv, tcsP, hv]
 by_cases hT : (T.proto : Int) = 6
 ·have hl := HL.out (by omega)
  obtain ⟨b, off, rfl⟩ := HR.out.some (by have := HX.out; omega)
  have hx := HX.out
  have cb := HR.out.gb (4 * G.ihl + 13) (by omega)
  have hbl : b < w2.heap.size := by
   rcases HR.out.lt _ rfl with h0 | h0
   ·omega
   ·exact h0
  have b13 := gb_lt xs HR.out.2.2.2.2.1 (4 * G.ihl + 13)
  have i1 : (0 : Int) ≤ 4 * (G.ihl : Int) + 13 := by omega
  have i2 : 4 * (G.ihl : Int) + 13 < (len : Int) := by omega
  have i3 : (G.ihl : Int) < 16 := by omega
  have e1 : (4 * (G.ihl : Int) + 13).toNat = 4 * G.ihl + 13 := by omega
  clear hl hx
  go_wp2_with fail
  all_goals (go_ret; refine ⟨_, rfl, ?_, (TT.out.alloc _).alloc _⟩; unfold isK; (first | (simp_all; done) | (simp_all; omega)))
 ·go_wp2_with fail
  all_goals (first | (go_ret; refine ⟨_, rfl, ?_, (TT.out.alloc _).alloc _⟩; unfold isK; (first | (simp_all; done) | (simp_all; omega))) | (exfalso; simp_all; done) | (exfalso; simp_all; omega))
end Go.Proofs.YtpjdcgjoepjmcaaGreat
end
section
namespace Go.Proofs.YtpjdcgjoepjmcaaGreat
open Go.RowKit
def headK (k : KArg) : List Nat := beB 2 (u64N k.sport) ++ beB 2 (u64N k.dport)
def tcpK (flags : Int) : List Nat := [0, 0, 0, 0, 0, 0, 0, 0, 80] ++ beB 1 (u64N flags) ++ [0, 0, 0, 0, 0, 0]
def udpK (n : Nat) : List Nat := beB 2 (u64N (8 + (n : Int)))
def pK (k : KArg) (flags : Int) (ys : List Nat) : List Nat :=
 (if k.proto = 6 then headK k ++ tcpK flags else headK k ++ udpK ys.length ++ [0, 0]) ++ ys
def hK (k : KArg) (ttl : Int) (n : Nat) : HArg := ⟨0, 0, 20 + (n : Int), 0, 0, 0, ttl, k.proto, 0, k.src, k.dst⟩
def sizeK (k : KArg) (n : Nat) : Nat := (if k.proto = 6 then 20 else 8) + n
def madeF (k : KArg) (ttl flags : Int) (ys : List Nat) : List Nat := builtF (hK k ttl (sizeK k ys.length)) ++ pK k flags ys
theorem pK_length (k : KArg) (flags : Int) (ys : List Nat) : (pK k flags ys).length = sizeK k ys.length := by
 unfold pK sizeK
 split <;> (simp [headK, tcpK, udpK, beB_length]; omega)
theorem madeF_length (k : KArg) (ttl flags : Int) (ys : List Nat) : (madeF k ttl flags ys).length = 20 + sizeK k ys.length := by
 simp [madeF, builtF_length, pK_length]
theorem hK_ok (k : KArg) (ok : k.Ok) (ttl : Int) (ht : isI64 ttl) (n : Nat) (hn : n ≤ 1000000) : (hK k ttl n).Ok := by
 refine ⟨?_, ?_, ?_, ?_, ?_, ?_, ht, ok.proto, ?_, ok.src, ok.dst⟩ <;> (simp only [hK, isI64]; omega)
theorem kcells_of {w : World} {B : Nat} {k : KArg} {T : TypeId} {m : Nat × Nat} (h : w.heap[B]? = some (.cells (kcs k) T m)) :
 w.cell? ⟨B, 0, none⟩ = some (.int .u32 k.src) ∧ w.cell? ⟨B, 1, none⟩ = some (.int .u32 k.dst) ∧ w.cell? ⟨B, 2, none⟩ = some (.int .i64 k.proto) ∧ w.cell? ⟨B, 3, none⟩ = some (.int .i64 k.sport) ∧ w.cell? ⟨B, 4, none⟩ = some (.int .i64 k.dport) := by
 have c0 := cell_of_cells h 0
 have c1 := cell_of_cells h 1
 have c2 := cell_of_cells h 2
 have c3 := cell_of_cells h 3
 have c4 := cell_of_cells h 4
 simp [kcs] at c0 c1 c2 c3 c4
 exact ⟨c0, c1, c2, c3, c4⟩
set_option maxRecDepth 20000 in
set_option maxHeartbeats 8000000 in
theorem made_any (k : KArg) (ok : k.Ok) (ttl flags : Int) (a : Option Addr) (len cap : Nat) (ys : List Nat) (w : World) (hr : RowB w a len cap ys) (hlen : len ≤ 10000) (ht : isI64 ttl) (hfl : isI64 flags) (n : Nat) (hn : n = 20 + sizeK k len) :
 Calls Tryz.prog 27 #[.agg (kcs k), .int .i64 ttl, .int .i64 flags, .slice a len cap] w fun e w' => ∃ a' cap', e = .returned (.slice a' n cap') ∧ FreshB w w' (.slice a' n cap') (madeF k ttl flags ys) := by
 obtain ⟨W1, hW1⟩ : ∃ W, w.alloc (.cells (kcs k) 37) = W := ⟨_, rfl⟩
 have t1 : Touch w W1 (fun _ => False) := hW1 ▸ (Touch.refl _ _).alloc _
 have HH1 : RowKit.Hid (W1.heap[w.heap.size]? = some (.cells (kcs k) 37 (0, 0))) := Lib.hid (hW1 ▸ heap_alloc_new w _)
 have HR0 := Lib.hid hr
 have HX := Lib.hid hr.1
 have HT1 := Lib.hid t1
 have HBD : RowKit.Hid (∀ W, Calls Tryz.prog 64 #[.agg (acs (hK k ttl (sizeK k len)))] W fun e w' => ∃ a' cap', e = .returned (.slice a' 20 cap') ∧ FreshB W w' (.slice a' 20 cap') (builtF (hK k ttl (sizeK k len)))) := Lib.hid (fun W => rbuild_any _ (hK_ok k ok ttl ht (sizeK k len) (by unfold sizeK; split <;> omega)) W)
 obtain ⟨o0, o1, o2, o3, o4⟩ := ok
 have HW1 := Lib.hid hW1
 have HN := Lib.hid hn
 clear hr t1 hW1 hn
 simp only [isI64] at o2 ht hfl
 simp only [kcs] at HW1 ⊢
 go_enter Tryz.func27, Tryz.ntmps27
 go_upto_region 1 with fail
 rw [HW1.out]
 go_cut [9] (fun s9 wx => ∃ a9 c9, s9 = .slice a9 4 c9 ∧ OwnB wx (w.heap.size + 1) 5 (.slice a9 4 c9) (headK k) ∧ Touch w wx (fun _ => False) ∧ wx.heap[w.heap.size]? = some (.cells (kcs k) 37 (0, 0)))
 case first =>
  go_wp2_with fail
  have t2 := (Touch.refl W1 (fun _ => False)).drew
  have HT := Lib.hid (HT1.out.trans t2 (fun _ _ h => h))
  have HH := Lib.hid (t2.keeps HH1.out (fun h => h))
  obtain ⟨c0, c1, c2, c3, c4⟩ := kcells_of HH1.out
  clear t2
  go_region_law (first
   | (have _u := HR16; refine step_appendB rfl _ _ 38 rfl 5 Tryz.underlying38 infoB (w.heap.size + 1) (.slice a13 2 d13) _ rfl HO.out _ _ _ (beB 2 (u64N k.dport)) rfl HR16.out 4 (headK k) rfl (by simp [headK, beB_length]) (by omega) (heap_lt HH.out) ?_; intro a17 d17 w17 hown hrow hg hpl; have HT := Lib.hid (HT.out.grown hg (fun j hj hlt => by have := (HO.out.own.lt j hj).1; omega)); have HH := Lib.hid ((hg.block w.heap.size (heap_lt HH.out) (fun e => by have := (HO.out.own.lt _ e.symm).1; omega)).trans HH.out); have HO := Lib.hid hown; obtain ⟨c0, c1, c2, c3, c4⟩ := kcells_of HH.out; clear hown hrow hg hpl)
   | (go_simp; go_at_call_of 63 (Value.int .i64 k.sport); (with_reducible refine (bytes2_any k.sport _ o3).mono ?_); rintro e w13 ⟨a13, d13, rfl, hf13⟩; have hlt := heap_lt HH.out; have t13 := hf13.2; have HO := Lib.hid (hf13.1.base (base' := w.heap.size + 1) (fun j hj => by have := (hf13.1.own.lt j hj).1; omega)); have HT := Lib.hid (HT.out.trans t13 (fun _ _ h => h)); have HH := Lib.hid (t13.keeps HH.out (fun h => h)); obtain ⟨c0, c1, c2, c3, c4⟩ := kcells_of HH.out; clear hf13 t13 hlt)
   | (go_simp; go_at_call_of 63 (Value.int .i64 k.dport); (with_reducible refine (bytes2_any k.dport _ o4).mono ?_); rintro e w16 ⟨a16, d16, rfl, hf16⟩; have hq := ref_row (n := 0) hf16 (beB_length _ _); have t16 := hf16.2; have HO := Lib.hid (HO.out.touch t16 (fun _ _ h => h)); have HT := Lib.hid (HT.out.trans t16 (fun _ _ h => h)); have HH := Lib.hid (t16.keeps HH.out (fun h => h)); have HR16 := Lib.hid hq.1; obtain ⟨c0, c1, c2, c3, c4⟩ := kcells_of HH.out; clear hf16 hq t16))
  all_goals (go_wp2_with fail; go_meet; exact ⟨_, _, rfl, HO.out, HT.out, HH.out⟩)
 case rest =>
  obtain ⟨a9, d9, rfl, ho, ht9, hh⟩ := hcut
  obtain ⟨c0, c1, c2, c3, c4⟩ := kcells_of hh
  have HY := Lib.hid (HR0.out.touch ht9 (fun _ _ => .inr (fun h => h)))
  have HO := Lib.hid ho
  have HT := Lib.hid ht9
  have HH := Lib.hid hh
  have HLN := Lib.hid (heap_lt hh)
  clear ho ht9 hh HH1 HT1
  by_cases hp : k.proto = 6
  ·have hp' : (k.proto == 6) = true := beq_iff_eq.2 hp
   have hsz : sizeK k len = 20 + len := by unfold sizeK; rw [if_pos hp]
   have HPE : RowKit.Hid (pK k flags ys = headK k ++ tcpK flags ++ ys) := Lib.hid (by unfold pK; rw [if_pos hp])
   have hMD : madeF k ttl flags ys = builtF (hK k ttl (sizeK k len)) ++ pK k flags ys := by unfold madeF; rw [HX.out]
   have HBL := Lib.hid (builtF_length (hK k ttl (sizeK k len)))
   generalize builtF (hK k ttl (sizeK k len)) = F at *
   simp only [acs, hK, hsz, show ((20 + len : Nat) : Int) = 20 + (len : Int) from by omega, hp] at HBD
   have HMD := Lib.hid hMD
   have hN := HN.out
   rw [hsz] at hN
   subst hN
   have HL36 : RowKit.Hid ((headK k ++ tcpK flags ++ ys).length = 20 + len) := Lib.hid (by simp [headK, tcpK, beB_length, HX.out]; omega)
   clear hMD HN HW1
   have HRL := fun (W : World) => row_lit W #[.int .u8 0, .int .u8 0, .int .u8 0, .int .u8 0, .int .u8 0, .int .u8 0, .int .u8 0, .int .u8 0, .int .u8 80, .int .u8 (flags % 256), .int .u8 0, .int .u8 0, .int .u8 0, .int .u8 0, .int .u8 0, .int .u8 0] 16 (tcpK flags) (by simp [tcpK, beB, List.range_succ, cellB, u64N]; omega) (by simp [tcpK, beB_length]) (by intro x hx; simp only [tcpK, List.mem_append] at hx; rcases hx with (h1 | h1) | h1; (simp at h1; omega); (exact beB_small _ _ x h1); (simp at h1; omega)) (by omega)
   have HRL' := Lib.hid HRL
   clear HRL
   go_wp2_with (first
    | (go_at_call 64; (with_reducible refine (HBD.out _).mono ?_); rintro e w48 ⟨a48, d48, rfl, hf48⟩; have t48 := hf48.2; have HRP := Lib.hid (HR36.out.touch t48 (fun _ _ => .inr (fun h => h))); have HO48 := Lib.hid hf48.1; have HB48 := Lib.hid (t48.below (B := w36.heap.size) (fun _ _ h => h.elim) (Nat.le_refl _)); clear hf48 t48)
    | (at_builtin; have _u := HO48; refine wpList_appendB rfl _ _ 38 rfl 5 Tryz.underlying38 infoB w36.heap.size (.slice a48 20 d48) F rfl HO48.out _ _ _ (headK k ++ tcpK flags ++ ys) rfl HRP.out (20 + (20 + len)) (F ++ (headK k ++ tcpK flags ++ ys)) rfl (by rw [List.length_append, HBL.out, HL36.out]) (by omega) HB48.out.size w36.heap.size w36 HB48.out (Nat.le_refl _) ?_; intro a50 d50 w50 hown hrow hg hb hs hp50 hpl; have HT50 := Lib.hid (HT.out.trans (Touch.ofBelow (S := fun _ => False) hb (fun k h1 h2 => by omega)) (fun _ _ h => h)); have HO50 := Lib.hid (hown.base (base' := w.heap.size) (fun j hj => by have := (hown.own.lt j hj).1; have := HT.out.size; omega)); clear hown hrow hg hb hs hp50 hpl)
    | (at_builtin; have _u := HO25; refine wpList_appendB rfl _ _ 38 rfl 5 Tryz.underlying38 infoB (w.heap.size + 1) (.slice a25 20 d25) (headK k ++ tcpK flags) rfl HO25.out _ _ _ ys rfl HY.out (20 + len) (headK k ++ tcpK flags ++ ys) rfl HL36.out (by omega) HLN.out w.heap.size w (HT.out.below (fun _ _ h => h.elim) (Nat.le_refl _)) (Nat.le_succ _) ?_; intro a36 d36 w36 hown hrow hg hb hs hp36 hpl; have HT := Lib.hid (Touch.ofBelow (S := fun _ => False) hb (fun k h1 h2 => by omega)); have HH := Lib.hid ((hg.block w.heap.size (by have := heap_lt HH.out; omega) (fun e => by have := (HO25.out.own.lt _ e.symm).1; omega)).trans HH.out); have HR36 := Lib.hid hrow; obtain ⟨c0, c1, c2, c3, c4⟩ := kcells_of HH.out; clear hown hrow hg hb hs hp36 hpl)
    | (at_builtin; have _u := HRL'; refine wpList_appendB rfl _ _ 38 rfl 5 Tryz.underlying38 infoB (w.heap.size + 1) (.slice a9 4 d9) (headK k) rfl (HO.out.touch ((Touch.refl _ (fun _ => False)).alloc _) (fun _ _ h => h)) _ _ _ (tcpK flags) rfl (HRL'.out _) 20 (headK k ++ tcpK flags) rfl (by simp [headK, tcpK, beB_length]) (by omega) (by have := HLN.out; simp; omega) w.heap.size w ((HT.out.alloc _).below (fun _ _ h => h.elim) (Nat.le_refl _)) (Nat.le_succ _) ?_; intro a25 d25 w25 hown hrow hg hb hs hp25 hpl; have HT := Lib.hid (Touch.ofBelow (S := fun _ => False) hb (fun k h1 h2 => by omega)); have HY := Lib.hid (HR0.out.touch HT.out (fun _ _ => .inr (fun h => h))); have HH := Lib.hid ((hg.block w.heap.size (by have := heap_lt HH.out; simp; omega) (fun e => by have := (HO.out.own.lt _ e.symm).1; omega)).trans ((Below.heap_alloc _ _ _ (heap_lt HH.out)).trans HH.out)); have HO25 := Lib.hid hown; have HLN : RowKit.Hid (w.heap.size + 1 ≤ w25.heap.size) := Lib.hid (heap_lt HH.out); obtain ⟨c0, c1, c2, c3, c4⟩ := kcells_of HH.out; clear hown hrow hg hb hs hp25 hpl))
   go_ret
   rw [HMD.out, HPE.out]
   exact ⟨_, _, rfl, HO50.out, HT50.out⟩
  ·have hp' : (k.proto == 6) = false := beq_eq_false_iff_ne.2 hp
   have hsz : sizeK k len = 8 + len := by unfold sizeK; rw [if_neg hp]
   have HPE : RowKit.Hid (pK k flags ys = headK k ++ udpK len ++ [0, 0] ++ ys) := Lib.hid (by unfold pK; rw [if_neg hp, HX.out])
   have hMD : madeF k ttl flags ys = builtF (hK k ttl (sizeK k len)) ++ pK k flags ys := by unfold madeF; rw [HX.out]
   have HBL := Lib.hid (builtF_length (hK k ttl (sizeK k len)))
   generalize builtF (hK k ttl (sizeK k len)) = F at *
   simp only [acs, hK, hsz, show ((8 + len : Nat) : Int) = 8 + (len : Int) from by omega] at HBD
   have HMD := Lib.hid hMD
   have hN := HN.out
   rw [hsz] at hN
   subst hN
   have HL36 : RowKit.Hid ((headK k ++ udpK len ++ [0, 0] ++ ys).length = 8 + len) := Lib.hid (by simp [headK, udpK, beB_length, HX.out]; omega)
   clear hMD HN HW1
   have HRL := fun (W : World) => row_lit W #[.int .u8 0, .int .u8 0] 2 [0, 0] (by rfl) (by rfl) (by intro x hx; simp at hx; omega) (by omega)
   have HRL' := Lib.hid HRL
   clear HRL
   go_wp2_with (first
    | (go_at_call 64; (with_reducible refine (HBD.out _).mono ?_); rintro e w48 ⟨a48, d48, rfl, hf48⟩; have t48 := hf48.2; have HRP := Lib.hid (HR36.out.touch t48 (fun _ _ => .inr (fun h => h))); have HO48 := Lib.hid hf48.1; have HB48 := Lib.hid (t48.below (B := w36.heap.size) (fun _ _ h => h.elim) (Nat.le_refl _)); clear hf48 t48)
    | (at_builtin; have _u := HO48; refine wpList_appendB rfl _ _ 38 rfl 5 Tryz.underlying38 infoB w36.heap.size (.slice a48 20 d48) F rfl HO48.out _ _ _ (headK k ++ udpK len ++ [0, 0] ++ ys) rfl HRP.out (20 + (8 + len)) (F ++ (headK k ++ udpK len ++ [0, 0] ++ ys)) rfl (by rw [List.length_append, HBL.out, HL36.out]) (by omega) HB48.out.size w36.heap.size w36 HB48.out (Nat.le_refl _) ?_; intro a50 d50 w50 hown hrow hg hb hs hp50 hpl; have HT50 := Lib.hid (HT.out.trans (Touch.ofBelow (S := fun _ => False) hb (fun k h1 h2 => by omega)) (fun _ _ h => h)); have HO50 := Lib.hid (hown.base (base' := w.heap.size) (fun j hj => by have := (hown.own.lt j hj).1; have := HT.out.size; omega)); clear hown hrow hg hb hs hp50 hpl)
    | (at_builtin; have _u := HO25; refine wpList_appendB rfl _ _ 38 rfl 5 Tryz.underlying38 infoB (w.heap.size + 1) (.slice a25 8 d25) (headK k ++ udpK len ++ [0, 0]) rfl HO25.out _ _ _ ys rfl HY.out (8 + len) (headK k ++ udpK len ++ [0, 0] ++ ys) rfl HL36.out (by omega) HLN.out w.heap.size w (HT.out.below (fun _ _ h => h.elim) (Nat.le_refl _)) (Nat.le_succ _) ?_; intro a36 d36 w36 hown hrow hg hb hs hp36 hpl; have HT := Lib.hid (Touch.ofBelow (S := fun _ => False) hb (fun k h1 h2 => by omega)); have HH := Lib.hid ((hg.block w.heap.size (by have := heap_lt HH.out; omega) (fun e => by have := (HO25.out.own.lt _ e.symm).1; omega)).trans HH.out); have HR36 := Lib.hid hrow; obtain ⟨c0, c1, c2, c3, c4⟩ := kcells_of HH.out; clear hown hrow hg hb hs hp36 hpl)
    | (at_builtin; have _u := HO31; refine wpList_appendB rfl _ _ 38 rfl 5 Tryz.underlying38 infoB (w.heap.size + 1) (.slice a31 6 d31) (headK k ++ udpK len) rfl (HO31.out.touch ((Touch.refl _ (fun _ => False)).alloc _) (fun _ _ h => h)) _ _ _ ([0, 0]) rfl (HRL'.out _) 8 (headK k ++ udpK len ++ [0, 0]) rfl (by simp [headK, udpK, beB_length]) (by omega) (by have := HLN.out; simp; omega) w.heap.size w ((HT.out.alloc _).below (fun _ _ h => h.elim) (Nat.le_refl _)) (Nat.le_succ _) ?_; intro a25 d25 w25 hown hrow hg hb hs hp25 hpl; have HT := Lib.hid (Touch.ofBelow (S := fun _ => False) hb (fun k h1 h2 => by omega)); have HY := Lib.hid (HR0.out.touch HT.out (fun _ _ => .inr (fun h => h))); have HH := Lib.hid ((hg.block w.heap.size (by have := heap_lt HH.out; simp; omega) (fun e => by have := (HO31.out.own.lt _ e.symm).1; omega)).trans ((Below.heap_alloc _ _ _ (heap_lt HH.out)).trans HH.out)); have HO25 := Lib.hid hown; have HLN : RowKit.Hid (w.heap.size + 1 ≤ w25.heap.size) := Lib.hid (heap_lt HH.out); obtain ⟨c0, c1, c2, c3, c4⟩ := kcells_of HH.out; clear hown hrow hg hb hs hp25 hpl)
    | (go_at_call 63; (with_reducible refine (bytes2_any (8 + (len : Int)) _ (by unfold isI64; omega)).mono ?_); rintro e w30 ⟨a30, d30, rfl, hf30⟩; have hq := ref_row (n := 0) hf30 (beB_length _ _); have t30 := hf30.2; have HO := Lib.hid (HO.out.touch t30 (fun _ _ h => h)); have HT := Lib.hid (HT.out.trans t30 (fun _ _ h => h)); have HH := Lib.hid (t30.keeps HH.out (fun h => h)); have HR30 := Lib.hid hq.1; have HLN := Lib.hid (heap_lt HH.out); obtain ⟨c0, c1, c2, c3, c4⟩ := kcells_of HH.out; clear hf30 hq t30)
    | (at_builtin; have _u := HR30; refine wpList_appendB rfl _ _ 38 rfl 5 Tryz.underlying38 infoB (w.heap.size + 1) (.slice a9 4 d9) (headK k) rfl HO.out _ _ _ (udpK len) rfl HR30.out 6 (headK k ++ udpK len) rfl (by simp [headK, udpK, beB_length]) (by omega) HLN.out w.heap.size w (HT.out.below (fun _ _ h => h.elim) (Nat.le_refl _)) (Nat.le_succ _) ?_; intro a31 d31 w31 hown hrow hg hb hs hp31 hpl; have HT := Lib.hid (Touch.ofBelow (S := fun _ => False) hb (fun k h1 h2 => by omega)); have HY := Lib.hid (HR0.out.touch HT.out (fun _ _ => .inr (fun h => h))); have HH := Lib.hid ((hg.block w.heap.size (by have := heap_lt HH.out; omega) (fun e => by have := (HO.out.own.lt _ e.symm).1; omega)).trans HH.out); have HO31 := Lib.hid hown; have HLN : RowKit.Hid (w.heap.size + 1 ≤ w31.heap.size) := Lib.hid (heap_lt HH.out); obtain ⟨c0, c1, c2, c3, c4⟩ := kcells_of HH.out; clear hown hrow hg hb hs hp31 hpl))
   go_ret
   rw [HMD.out, HPE.out]
   exact ⟨_, _, rfl, HO50.out, HT50.out⟩
end Go.Proofs.YtpjdcgjoepjmcaaGreat
end
