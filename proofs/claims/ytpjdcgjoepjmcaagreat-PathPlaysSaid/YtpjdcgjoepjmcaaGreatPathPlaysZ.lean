/- PathPlays holds: any packets over any sets of backends come to what the document's own path makes of them, with the same records, and the same flows. No condition. -/
import Derived.Test.YtpjdcgjoepjmcaaGreatLCZ
import Derived.Test.YtpjdcgjoepjmcaaGreatLDZ
import Derived.Test.YtpjdcgjoepjmcaaGreatFrPathPlaysZ
import Derived.Test.YtpjdcgjoepjmcaaGreatTupArgsZ
import Derived.Test.YtpjdcgjoepjmcaaGreatHAZ
import Derived.Deep.DeepCutAuto
set_option linter.unusedVariables false
set_option linter.unusedSimpArgs false
namespace Go.Proofs.YtpjdcgjoepjmcaaGreat
open Go.RowKit
theorem enter_gone23 (a : Value) (w : World) : (callFunc 15 #[a]).run Tryz.prog w = .ok (.enter 15 #[a]) w := by kernel_rfl
theorem enter_cset (a b c : Value) (w : World) : (callFunc 14 #[a, b, c]).run Tryz.prog w = .ok (.enter 14 #[a, b, c]) w := by kernel_rfl
theorem enter_xset (a b c : Value) (w : World) : (callFunc 16 #[a, b, c]).run Tryz.prog w = .ok (.enter 16 #[a, b, c]) w := by kernel_rfl
theorem enter_out23 (a b : Value) (w : World) : (callFunc 21 #[a, b]).run Tryz.prog w = .ok (.enter 21 #[a, b]) w := by kernel_rfl
theorem enter_srecs23 (a b : Value) (w : World) : (callFunc 22 #[a, b]).run Tryz.prog w = .ok (.enter 22 #[a, b]) w := by kernel_rfl
theorem enter_fall23 (a : Value) (w : World) : (callFunc 24 #[a]).run Tryz.prog w = .ok (.enter 24 #[a]) w := by kernel_rfl
theorem enter_sflows23 (a b : Value) (w : World) : (callFunc 23 #[a, b]).run Tryz.prog w = .ok (.enter 23 #[a, b]) w := by kernel_rfl
set_option maxRecDepth 20000 in
set_option maxHeartbeats 32000000 in
theorem plays23_walk (m0 u0 gen : Int) (a : Option Addr) (len cap : Nat) (l : List CallP) (w : World) (hr : RowS w a len cap 12 (l.map CallP.cells)) (hok : ∀ c ∈ l, CallPOk w c) : Calls Tryz.prog 3 #[.int .i64 m0, .int .i64 u0, .int .i64 gen, .slice a len cap] w fun e w' => e = .returned (.bool true) ∧ Touch w w' (fun _ => False) := by
 obtain ⟨N, hN, hN1⟩ := modP m0 12 (by decide) (by decide)
 obtain ⟨U, hU, hU1⟩ := modP u0 1600 (by decide) (by decide)
 have HNU := Lib.hid (And.intro hN hU)
 have HN1 := Lib.hid hN1
 have HLN : RowKit.Hid (l.length = len) := Lib.hid (by have := hr.hlen; simpa using this)
 have HR0 := Lib.hid hr
 have HOK0 := Lib.hid hok
 clear hN hU hN1 hU1 hr hok
 go_enter Tryz.func3, Tryz.ntmps3
 go_upto_region 2 with (fail)
 rw [HNU.out.1, HNU.out.2]
 go_wp2_with fail
 (with_reducible refine (config_any (N : Int) w).mono ?_)
 rintro e wa ⟨rfl, ta⟩
 obtain ⟨Wb, hWb⟩ : ∃ W, wa.alloc (.cells (cfg23 N) 26) = W := ⟨_, rfl⟩
 obtain ⟨CB, hCB⟩ : ∃ B, wa.heap.size = B := ⟨_, rfl⟩
 have gb : Wb.heap[CB]? = some (.cells (cfg23 N) 26 (0, 0)) := hCB ▸ hWb ▸ heap_alloc_new ..
 have tb : Touch wa Wb (fun _ => False) := hWb ▸ (Touch.refl wa _).alloc _
 have hCBs : w.heap.size ≤ CB := by rw [← hCB]; exact ta.size
 have x4 : Wb.cell? ⟨CB, 4, none⟩ = some (.int .i64 1500) := cell_of_cells gb 4
 have y4 := free_of_cells gb 4
 have HWB := Lib.hid (And.intro hWb hCB)
 have HGB := Lib.hid gb
 have HTB := Lib.hid (ta.trans tb (fun _ _ h => h))
 have HCS := Lib.hid hCBs
 simp only [cfg23, cfgC] at HWB
 clear hWb hCB gb tb ta hCBs
 unfold cfg23 cfgC
 go_upto_region 3 with (fail)
 rw [HWB.out.1, HWB.out.2]
 go_upto_region 4 with (fail)
 obtain ⟨w5, hw5⟩ : ∃ W, Wb.setCell ⟨CB, 4, none⟩ (.int .i64 U) = W := ⟨_, rfl⟩
 have HC5 : RowKit.Hid (w5.heap[CB]? = some (.cells (cfgC 168364297 13 N 20 U 200 20000 3) 26 (0, 0))) := Lib.hid (by rw [← hw5]; exact heap_setCell_same Wb CB 4 _ _ _ HGB.out)
 have HT5 : RowKit.Hid (Touch w w5 (fun _ => False)) := Lib.hid (by rw [← hw5]; exact HTB.out.setCell _ _ (fun h => by have := HCS.out; have h : CB < w.heap.size := h; omega))
 rw [hw5]
 clear hw5 x4 y4 HWB HGB HTB
 have HR := Lib.hid (HR0.out.still HT5.out)
 go_wp2_with fail
 refine (fnew_any w5 N 20).mono ?_
 rintro e w0 ⟨g, h, rfl, n0, t0, f0⟩
 have n0' : FS w0 g h N 20 [] := by
  have e1 : min (max (N : Int) 0) 256 = N := by have := HN1.out; omega
  have e2 : min (max (20 : Int) 1) 1099511627776 = 20 := by decide
  rw [e1, e2] at n0
  exact n0
 have N0 := Lib.hid (FN.mk n0' t0 f0)
 clear n0 n0' t0 f0
 go_wp2_with fail
 refine (rfnew_any w0 N 20).mono ?_
 rintro e w1 ⟨b, rfl, rf, t1, hb⟩
 have rf' : RF w1 b none 0 N 20 [] := by
  have e1 : min (max (N : Int) 0) 256 = N := by have := HN1.out; omega
  have e2 : min (max (20 : Int) 1) 1099511627776 = 20 := by decide
  rw [e1, e2] at rf
  exact rf
 have HRF := Lib.hid rf'
 have HBF : RowKit.Hid (¬ footF g h b ∧ w5.heap.size ≤ b) := Lib.hid ⟨fun e => by have := N0.out.q.footlt _ e; omega, Nat.le_trans N0.out.t.size hb⟩
 have N1 := Lib.hid (N0.out.still t1)
 clear rf rf' t1 hb N0
 go_wp2_with fail
 refine (new_off 13 w1 prm13).mono ?_
 rintro e w2 ⟨C, G0, rfl, hc, hC, hG, hi, t2⟩
 have HPW0 : RowKit.Hid (PW w5 w2 g h N 20 [] C 13 [] (tabF [] 13) none 0 0 G0 0) := Lib.hid (PW.fresh N1.out (by omega) t2 hc hC hG hi)
 have HBL : RowKit.Hid (b < C ∧ b < G0 ∧ w5.heap.size ≤ C ∧ w5.heap.size ≤ G0) := Lib.hid (by have := heap_lt HRF.out.head; have := HBF.out.2; omega)
 have HRF := Lib.hid (HRF.out.still t2)
 clear hc hC hG hi t2 N1
 go_wp2_with fail
 refine (rnewch_any 13 w2 prm13).mono ?_
 rintro e w3 ⟨X, G2, rfl, hx, hX, hG2, hi2, t3⟩
 have HQ0 : RowKit.Hid (Q w5 w3 g C b X N 1 [] [] [] (tabF [] 13) [] (tabF [] 13) []) := Lib.hid (Q.first HPW0.out HRF.out HBF.out.2 HBF.out.1 HBL.out.1 HBL.out.2.1 HBL.out.2.2.1 HBL.out.2.2.2 t3 hx hX hG2 hi2)
 clear hx hX hG2 hi2 t3 HPW0 HRF HBF HBL
 go_wp2_with fail
 go_loopw [14] (fun s14 wr => ∃ (k : Nat) (M L : List FlD) (bs : List BkD) (T : List Int), k ≤ len ∧ s14 = .int .i64 k ∧ Q w5 wr g C b X N (2 * k + 1) M L bs T bs T [] ∧ LikeF N M L) (fun s14 _ => len - (RowKit.intOf s14).toNat)
 case atStart => exact ⟨0, [], [], [], _, Nat.zero_le _, rfl, HQ0.out, LikeF.nil _ (by omega)⟩
 case round =>
  obtain ⟨k, M, L, bs, T, hk, rfl, hq, hlk⟩ := hrel
  have HQ := Lib.hid hq
  have HLK := Lib.hid hlk
  clear hq hlk HQ0
  by_cases hlt : k < len ∧ k < 60
  case neg =>
   have HTW := Lib.hid (HT5.out.trans HQ.out.touch (fun _ _ h => h))
   have hor : (¬ (k : Int) < len) ∨ ((k : Int) < len ∧ ¬ (k : Int) < 60) := by omega
   rcases hor with hlI | ⟨hlI, hlJ⟩
   all_goals
    go_wp2_with fail
    refine (awake23 wr).mono ?_
    rintro e w7 ⟨rfl, t7⟩
    have HT7 := Lib.hid (HTW.out.trans t7 (fun _ _ h => h))
    clear t7
    go_wp2_with fail
    go_ret
    exact ⟨rfl, HT7.out⟩
  case pos =>
   obtain ⟨hlt, h60⟩ := hlt
   have hlI : (k : Int) < len := by omega
   have hlJ : (k : Int) < 60 := by omega
   have hrx := HR.out.still HQ.out.touch
   obtain ⟨g0, off, rfl⟩ := hrx.some (by omega)
   have hkl : k < l.length := by rw [HLN.out]; omega
   have dd := callP_cells hrx k hkl
   have hcap := hrx.hcap
   have hmax := hrx.hmax
   have hwk : wrap64 ((k : Int) + 1) = (k : Int) + 1 := by unfold wrap64; omega
   have HWK := Lib.hid hwk
   have hcok := HOK0.out _ (gcP_mem l k hkl)
   generalize gcP l k = cc at *
   obtain ⟨d, ttl, fl, st, ba, bn, bc, xs, now, la, lc, N9, oa, on, oc, O⟩ := cc
   obtain ⟨k0, k1, k2, k3, k4, k5, k6, k7, k8⟩ := hcok
   simp only at k0 k1 k2 k3 k4 k5 k6 k7 k8
   have HTW := Lib.hid (HT5.out.trans HQ.out.touch (fun _ _ h => h))
   have HST := Lib.hid k3
   have HI6 := Lib.hid (And.intro k1 k2)
   have HRB := Lib.hid (k4.stillP HTW.out)
   have HRBL := Lib.hid (fun x hx => (k4.lt x hx).imp (fun h => h) (fun h => Nat.lt_of_lt_of_le h HT5.out.size))
   have HRL := Lib.hid (k6.still HTW.out)
   have HRLL := Lib.hid (fun x hx => (k6.toS.lt x hx).imp (fun h => h) (fun h => Nat.lt_of_lt_of_le h HT5.out.size))
   have HRO := Lib.hid (k8.still HTW.out)
   have HROL : RowKit.Hid (∀ x, oa = some x → on = 0 ∨ x.block < w5.heap.size) := Lib.hid (fun x hx => (rowI_lt k8 x hx).imp (fun h => h) (fun h => Nat.lt_of_lt_of_le h HT5.out.size))
   have HLA : RowKit.Hid (∀ b ∈ N9, 0 ≤ b.addr ∧ b.addr ≤ 4294967295) := Lib.hid (fun b hb => (k7 b hb).addr)
   clear k0 k1 k2 k3 k4 k5 k6 k7 k8 hkl hcap hmax hwk hrx
   have d0 := dd 0 _ rfl
   have d1 := dd 1 _ rfl
   have d2 := dd 2 _ rfl
   have d3 := dd 3 _ rfl
   have d4 := dd 4 _ rfl
   have d5 := dd 5 _ rfl
   have d6 := dd 6 _ rfl
   have d7 := dd 7 _ rfl
   have d8 := dd 8 _ rfl
   have d9 := dd 9 _ rfl
   have d10 := dd 10 _ rfl
   have d11 := dd 11 _ rfl
   rw [Nat.add_zero] at d0
   clear dd
   obtain ⟨ln, hln⟩ : ∃ n, N9.length = n := ⟨_, rfl⟩
   rw [hln] at HRL HRLL d10
   have HLL := Lib.hid hln
   clear hln
   obtain ⟨W2, hW2⟩ : ∃ W, wr.alloc (.cells #[.int .i64 d, .int .i64 ttl, .int .i64 fl, .int .u32 st.src, .int .u32 st.dst, .int .i64 st.proto, .int .i64 st.sport, .int .i64 st.dport, .slice ba bn bc, .int .i64 now, .slice la ln lc, .slice oa on oc] 42) = W := ⟨_, rfl⟩
   obtain ⟨SB, hSB⟩ : ∃ B, wr.heap.size = B := ⟨_, rfl⟩
   have g2 : W2.heap[SB]? = some (.cells #[.int .i64 d, .int .i64 ttl, .int .i64 fl, .int .u32 st.src, .int .u32 st.dst, .int .i64 st.proto, .int .i64 st.sport, .int .i64 st.dport, .slice ba bn bc, .int .i64 now, .slice la ln lc, .slice oa on oc] 42 (0, 0)) := hSB ▸ hW2 ▸ heap_alloc_new ..
   have t2 : Touch wr W2 (fun _ => False) := hW2 ▸ (Touch.refl wr _).alloc _
   have HQ := Lib.hid (HQ.out.add t2 SB (by omega) (heap_lt g2))
   have HRB := Lib.hid (HRB.out.stillP t2)
   have HRL := Lib.hid (HRL.out.still t2)
   have HRO := Lib.hid (HRO.out.still t2)
   have HSB := Lib.hid g2
   have HW2 := Lib.hid (And.intro hW2 hSB)
   have HX : RowKit.Hid (∀ wx M L bs T K, Q w5 wx g C b X N (2 * k + 3) M L bs T bs T K → LikeF N M L → ∃ (k' : Nat) (M L : List FlD) (bs : List BkD) (T : List Int), k' ≤ len ∧ Value.int .i64 ((k : Int) + 1) = .int .i64 k' ∧ Q w5 wx g C b X N (2 * k' + 1) M L bs T bs T [] ∧ LikeF N M L) := Lib.hid (fun wx M L bs T K p q => ⟨k + 1, M, L, bs, T, by omega, by go_num, (p.less (fun _ h => by cases h)).mono (by omega), q⟩)
   clear t2 g2 hW2 hSB
   go_upto_region 10 with (fail)
   rw [HW2.out.1, HW2.out.2]
   clear d0 d1 d2 d3 d4 d5 d6 d7 d8 d9 d10 d11
   obtain ⟨s0, s1, s2, s3, s4, s5, s6, s7, s8, s9, s10, s11⟩ := call12 HSB.out
   by_cases h1 : 1500 < bn
   case pos =>
    have h1I : (1500 : Int) < bn := by omega
    go_wp2_with fail
    try rw [HWK.out]
    go_roundw
    ·exact HX.out _ _ _ _ _ _ (HQ.out.mono (by omega)) HLK.out
    ·simp only [RowKit.intOf]; omega
   case neg =>
   have h1I : ¬ (1500 : Int) < bn := by omega
   by_cases h2 : 40 < ln
   case pos =>
    have h2I : (40 : Int) < ln := by omega
    go_wp2_with fail
    try rw [HWK.out]
    go_roundw
    ·exact HX.out _ _ _ _ _ _ (HQ.out.mono (by omega)) HLK.out
    ·simp only [RowKit.intOf]; omega
   case neg =>
   have h2I : ¬ (40 : Int) < ln := by omega
   by_cases h3 : 20 < on
   case pos =>
    have h3I : (20 : Int) < on := by omega
    go_wp2_with fail
    try rw [HWK.out]
    go_roundw
    ·exact HX.out _ _ _ _ _ _ (HQ.out.mono (by omega)) HLK.out
    ·simp only [RowKit.intOf]; omega
   case neg =>
   have h3I : ¬ (20 : Int) < on := by omega
   have HI3 := Lib.hid (And.intro h1 (And.intro h2 h3))
   have HKM := Lib.hid h60
   obtain ⟨b2, hb2⟩ : ∃ b, (d == (2 : Int)) = b := ⟨_, rfl⟩
   go_upto_region 11 with (fail)
   clear h1I h2I h3I h1 h2 h3
   cases b2 with
   | true =>
     go_wp2_with fail
     clear s0 s1 s2 s3 s4 s5 s6 s7 s8 s9 s10 s11
     go_cut [84] (fun s wx => s = .bool false ∧ ∃ bs T K, Q w5 wx g C b X N (2 * k + 3) M L bs T bs T K)
     case first =>
      as_aux_lemma =>
       go_wp2_with fail
       have hbn : (setR N9 != setR N9) = false := bne_eq_false_iff_eq.2 rfl
       have HQ := Lib.hid (HQ.out.still (Touch.refl W2 (fun _ => False)).drew)
       have HRL : RowKit.Hid (RowK W2.drew la ln lc N9) := Lib.hid (HRL.out.still (Touch.refl W2 (fun _ => False)).drew)
       have HRO : RowKit.Hid (RowI W2.drew oa on oc O) := Lib.hid (HRO.out.still (Touch.refl W2 (fun _ => False)).drew)
       have hS := HSB.out
       refine wp_region_sched (fun w' => w'.heap[SB]? = some (.cells #[.int .i64 d, .int .i64 ttl, .int .i64 fl, .int .u32 st.src, .int .u32 st.dst, .int .i64 st.proto, .int .i64 st.sport, .int .i64 st.dport, .slice ba bn bc, .int .i64 now, .slice la ln lc, .slice oa on oc] 42 (0, 0))) [(0, true), (1, true), (2, true), (3, true), (4, true), (7, true), (8, true), (9, true), (10, true), (11, true), (5, false), (6, false), (12, false), (13, true)] (by kernel_rfl) (by kernel_rfl) rfl (by kernel_rfl) hS ?_
       iterate 10 ((refine walkS_take (v := ?_) (some _) rfl rfl (fun _ _ _ h => h) (by rfl) ?_ ?_; rotate_left; (focus (intro w' hw'; obtain ⟨s0, s1, s2, s3, s4, s5, s6, s7, s8, s9, s10, s11⟩ := call12 hw'; go_simp; (try with_reducible rfl))); (try simp only [Act.put, List.setIfInBounds_toArray, List.set_cons_zero, List.set_cons_succ])))
       (refine walkS_call 76 _ _ _ _ ((gone23_any oa on oc _)) rfl rfl rfl (by rfl) rfl (enter_gone23 _ _) ?_; rintro e w' ⟨rfl, hw'⟩; have t' : Touch W2.drew w' (fun _ => False) := hw' ▸ (Touch.refl W2.drew _).alloc _; have hgc : w'.cell? ⟨W2.drew.heap.size, 0, none⟩ = some (.slice oa on oc) := cell_of_cells (hw' ▸ heap_alloc_new ..) 0; have HGC := Lib.hid hgc; have HQ := Lib.hid (HQ.out.still t'); have HRL := Lib.hid (HRL.out.still t'); have HRO := Lib.hid (HRO.out.still t'); refine ⟨_, rfl, t'.keeps hS (fun h => h), fun hS => ?_⟩; clear t' hw' hgc; (try simp only [Act.put, List.setIfInBounds_toArray, List.set_cons_zero, List.set_cons_succ]))
       (refine walkS_call 77 _ _ _ _ ((HQ.out.setP (by have := HKM.out; omega) la ln lc N9 HRL.out HRLL.out HLA.out _ oa on oc O HGC.out HRO.out)) rfl rfl rfl (by rfl) rfl (enter_cset _ _ _ _) ?_; rintro e w' ⟨rfl, hq', t'⟩; have HQ := Lib.hid hq'; have HRL : RowKit.Hid (RowK w' la ln lc N9) := Lib.hid (HRL.out.touch t' (fun x hx => (HRLL.out x hx).imp (fun h => h) (fun h e => by have := e.1; omega))); have HRO : RowKit.Hid (RowI w' oa on oc O) := Lib.hid (HRO.out.touch t' (fun x hx => (HROL.out x hx).imp (fun h => h) (fun h e => by have := e.1; omega))); refine ⟨_, rfl, TK.cells t' List.mem_cons_self hS, fun hS => ?_⟩; clear t' hq'; (try simp only [Act.put, List.setIfInBounds_toArray, List.set_cons_zero, List.set_cons_succ]))
       (refine walkS_call 83 _ _ _ _ ((HQ.out.setX (by have := HKM.out; omega) la ln lc N9 HRL.out HRLL.out oa on oc O HRO.out HROL.out)) rfl rfl rfl (by rfl) rfl (enter_xset _ _ _ _) ?_; rintro e w' ⟨rfl, hq', t'⟩; have hne := HQ.out.neX (List.mem_cons_self (a := SB) (l := [])); have HQ := Lib.hid hq'; refine ⟨_, rfl, t'.keeps hS hne, fun hS => ?_⟩; clear t' hq' hne; (try simp only [Act.put, List.setIfInBounds_toArray, List.set_cons_zero, List.set_cons_succ]))
       (refine walkS_take (v := ?_) (some 84) rfl rfl (fun _ _ _ h => h) (by rfl) ?_ ?_; rotate_left; (focus (intro w' hw'; obtain ⟨s0, s1, s2, s3, s4, s5, s6, s7, s8, s9, s10, s11⟩ := call12 hw'; go_simp; (try with_reducible rfl))); (try simp only [Act.put, List.setIfInBounds_toArray, List.set_cons_zero, List.set_cons_succ]))
       refine walkS_done ?_
       go_wp2_with fail
       go_meet
       exact ⟨rfl, _, _, _, HQ.out.mono (by omega)⟩
     case rest =>
      obtain ⟨rfl, bs', T', K', hq'⟩ := hcut
      have HQ := Lib.hid hq'
      clear hq'
      go_wp2_with fail
      try rw [HWK.out]
      go_roundw
      ·exact HX.out _ _ _ _ _ _ HQ.out HLK.out
      ·simp only [RowKit.intOf]; omega
   | false =>
     have HBY := Lib.hid (bytesP_any d ttl fl st HST.out ba bn bc xs now la ln lc oa on oc W2 HRB.out (by have := HI3.out; omega) HI6.out.1 HI6.out.2)
     go_wp2_with fail
     (with_reducible refine HBY.out.mono ?_)
     rintro e w3 ⟨ya, yn, yc, ys, rfl, hry, hyn, hyw, t3⟩
     have HYR := Lib.hid hry
     have HYN := Lib.hid hyn
     obtain ⟨K3, hq3, hk3s, hk3⟩ := HQ.out.row t3 (a := ya) (n := yn) (fun x hx => RowB.lt hry x hx) (fun x hx => by
      rcases hyw with ⟨rfl, rfl⟩ | h9
      ·exact (HRBL.out x hx).imp (fun h => h) .inl
      ·exact .inr (.inr (Nat.le_trans (Nat.le_refl _) (h9 x hx))))
     have HQ : RowKit.Hid (Q w5 w3 g C b X N (2 * k + 1) M L bs T bs T K3) := Lib.hid hq3
     have HBB := Lib.hid HQ.out.blt
     have HYK := Lib.hid hk3
     have HSB := Lib.hid (t3.keeps HSB.out (fun h => h))
     have HSK := Lib.hid (hk3s SB List.mem_cons_self)
     have HYS := Lib.hid (tell_ok ys hry.2.2.2.2.1)
     clear hry hyn hyw t3 hq3 hk3 hk3s HBY s0 s1 s2 s3 s4 s5 s6 s7 s8 s9 s10 s11 HRL HRO HRB HRBL HRLL HROL
     have HCQ : RowKit.Hid (w3.heap[CB]? = some (.cells (cfgC 168364297 13 N 20 U 200 20000 3) 26 (0, 0))) := Lib.hid (HQ.out.touch.keeps HC5.out (fun h => h))
     have s9 : w3.cell? ⟨SB, 9, none⟩ = some (.int .i64 now) := cell_of_cells HSB.out 9
     obtain ⟨c0, c1, c2, c3, c4, c5, c6, c7⟩ := cfg8 HCQ.out
     have HPK := Lib.hid (HQ.out.pk U gen now ya yn yc ys HYR.out)
     simp only [cfgC, planV] at HPK
     obtain ⟨p, hp⟩ : ∃ p, pkF 168364297 U gen now N bs T 13 M ys = p := ⟨_, rfl⟩
     rw [hp] at HPK
     have HP := Lib.hid hp
     clear hp
     obtain ⟨pv, pr, pi, zs, rs, PM⟩ := p
     simp only at HPK
     go_upto_region 15 with (fail)
     go_wp2_with fail
     (with_reducible refine HPK.out.mono ?_)
     rintro e w4 ⟨pa, pn, pc, qa, qc, M1, rfl, hzr, hqr, hqf, hpm, hq4, t4⟩
     obtain ⟨W5, hW5⟩ : ∃ W, w4.alloc (.cells #[.int .i64 pv, .int .i64 pr, .int .i64 pi, .slice pa pn pc, .slice qa rs.length qc] 53) = W := ⟨_, rfl⟩
     obtain ⟨AC, hAC⟩ : ∃ B, w4.heap.size = B := ⟨_, rfl⟩
     have g5 : W5.heap[AC]? = some (.cells #[.int .i64 pv, .int .i64 pr, .int .i64 pi, .slice pa pn pc, .slice qa rs.length qc] 53 (0, 0)) := hAC ▸ hW5 ▸ heap_alloc_new ..
     have t5 : Touch w4 W5 (fun _ => False) := hW5 ▸ (Touch.refl w4 _).alloc _
     have HQ := Lib.hid (Q.add hq4 t5 AC (by omega) (heap_lt g5))
     have HSB := Lib.hid (t5.keeps (TK.cells t4 HSK.out HSB.out) (fun h => h))
     have HYR : RowKit.Hid (RowB W5 ya yn yc ys) := Lib.hid ((HYR.out.touch t4 (fun x hx => (HYK.out x hx).imp (fun h => h) (fun h e => h.elim (fun h => by have := e.1; omega) (fun h => e.2 h)))).stillP t5)
     have HPR := Lib.hid (hzr.stillP t5)
     have HQR := Lib.hid (hqr.still t5)
     have HQB : RowKit.Hid (∀ x, qa = some x → w3.heap.size ≤ x.block) := Lib.hid hqf
     have HPM := Lib.hid hpm
     have HAC := Lib.hid g5
     have HW5 := Lib.hid (And.intro hW5 hAC)
     clear hzr hqr hqf hpm hq4 t4 t5 g5 hW5 hAC HYK HPK c0 c1 c2 c3 c4 c5 c6 c7 s9
     have s9 : W5.cell? ⟨SB, 9, none⟩ = some (.int .i64 now) := cell_of_cells HSB.out 9
     go_upto_region 16 with (fail)
     rw [HW5.out.1, HW5.out.2]
     have HTI := Lib.hid (rtimeD_any W5 now)
     by_cases htm : 0 ≤ now ∧ now ≤ 1099511627776
     case neg =>
      have hde : decide (0 ≤ now ∧ now ≤ 1099511627776) = false := decide_eq_false htm
      rw [hde] at HTI
      have hpz := HP.out
      unfold pkF at hpz
      rw [if_pos (by omega)] at hpz
      injection hpz with e1 e2 e3 e4 e5 e6
      subst e1 e2 e3 e4 e5 e6
      have HLK := Lib.hid (HLK.out.perm HPM.out)
      clear hde HP HPM
      obtain ⟨y0, y4⟩ : W5.cell? ⟨AC, 0, none⟩ = some (.int .i64 0) ∧ W5.cell? ⟨AC, 4, none⟩ = some (.slice qa 0 qc) := ⟨cell_of_cells HAC.out 0, cell_of_cells HAC.out 4⟩
      go_wp2_with (go_at_call 19; (with_reducible refine HTI.out.mono ?_); rintro e w6 ⟨rfl, rfl⟩)
      try rw [HWK.out]
      go_roundw
      ·exact HX.out _ _ _ _ _ _ (HQ.out.mono (by omega)) HLK.out
      ·simp only [RowKit.intOf]; omega
     case pos =>
      have hde : decide (0 ≤ now ∧ now ≤ 1099511627776) = true := decide_eq_true htm
      rw [hde] at HTI
      obtain ⟨v, r, i, ys2, rs2, M2, L2, hp1, hp2, hp3⟩ := pk_like HLK.out 168364297 U gen now htm bs T 13 ys HYS.out
      have hpz := HP.out.symm.trans hp1
      injection hpz with e1 e2 e3 e4 e5 e6
      subst e1 e2 e3 e4 e5 e6
      have HLK2 := Lib.hid (hp3.perm HPM.out)
      have hrs : ∀ y ∈ rs, y.bs = [] := pk_recs hp1
      have HRS := Lib.hid hrs
      have HRP := Lib.hid (HQ.out.rpk HLK.out.rnd (HLK.out.rlen (by have := HN1.out; omega)) U gen now ya yn yc ys HYR.out HYN.out _ _ _ _ _ hp2)
      simp only [cfgC] at HRP
      have HCQ : RowKit.Hid (W5.heap[CB]? = some (.cells (cfgC 168364297 13 N 20 U 200 20000 3) 26 (0, 0))) := Lib.hid (HQ.out.touch.keeps HC5.out (fun h => h))
      obtain ⟨c0, c1, c2, c3, c4, c5, c6, c7⟩ := cfg8 HCQ.out
      clear hde hp1 hp2 hp3 hrs HP HPM HLK
      go_upto_region 19 with (go_at_call 19; (with_reducible refine HTI.out.mono ?_); rintro e w6 ⟨rfl, rfl⟩)
      go_wp2_with fail
      (with_reducible refine HRP.out.mono ?_)
      rintro e w7 ⟨pa2, pn2, pc2, qa2, qc2, rfl, hzr2, hqr2, hq7, t7⟩
      obtain ⟨W8, hW8⟩ : ∃ W, w7.alloc (.cells #[.int .i64 pv, .int .i64 pr, .int .i64 pi, .slice pa2 pn2 pc2] 50) = W := ⟨_, rfl⟩
      obtain ⟨OB, hOB⟩ : ∃ B, w7.heap.size = B := ⟨_, rfl⟩
      have g8 : W8.heap[OB]? = some (.cells #[.int .i64 pv, .int .i64 pr, .int .i64 pi, .slice pa2 pn2 pc2] 50 (0, 0)) := hOB ▸ hW8 ▸ heap_alloc_new ..
      have t8 : Touch w7 W8 (fun _ => False) := hW8 ▸ (Touch.refl w7 _).alloc _
      have hne := HQ.out.ne List.mem_cons_self
      have HAC := Lib.hid (t8.keeps (t7.keeps HAC.out hne) (fun h => h))
      have HPR := Lib.hid ((HPR.out.touch t7 (HQ.out.notB HPR.out)).stillP t8)
      have HQR := Lib.hid ((RowS.touch HQR.out t7 (fun x hx => .inr (fun e => by have e : x.block = b := e; have := HQB.out x hx; have := HBB.out; omega))).still t8)
      have HPR2 := Lib.hid (hzr2.stillP t8)
      have HQR2 := Lib.hid (hqr2.still t8)
      have HQ := Lib.hid (Q.still hq7 t8)
      have HOB := Lib.hid g8
      have HW8 := Lib.hid (And.intro hW8 hOB)
      clear hzr2 hqr2 hq7 t7 t8 g8 hW8 hOB hne c0 c1 c2 c3 c4 c5 c6 c7 s9 HRP HTI HYR
      go_upto_region 20 with (fail)
      rw [HW8.out.1, HW8.out.2]
      go_cut [141] (fun s wx => s = .bool false ∧ Touch W8 wx (fun _ => False))
      case first =>
       as_aux_lemma =>
        have HA5 : RowKit.Hid (∀ W, Touch W8 W (fun _ => False) → (W.cell? ⟨AC, 0, none⟩ = some (.int .i64 pv) ∧ W.cell? ⟨AC, 1, none⟩ = some (.int .i64 pr) ∧ W.cell? ⟨AC, 2, none⟩ = some (.int .i64 pi) ∧ W.cell? ⟨AC, 3, none⟩ = some (.slice pa pn pc) ∧ W.cell? ⟨AC, 4, none⟩ = some (.slice qa rs.length qc))) := Lib.hid (fun W t => by
         have k := t.keeps HAC.out (fun h => h)
         exact ⟨cell_of_cells k 0, cell_of_cells k 1, cell_of_cells k 2, cell_of_cells k 3, cell_of_cells k 4⟩)
        have HO4 : RowKit.Hid (∀ W, Touch W8 W (fun _ => False) → (W.cell? ⟨OB, 0, none⟩ = some (.int .i64 pv) ∧ W.cell? ⟨OB, 1, none⟩ = some (.int .i64 pr) ∧ W.cell? ⟨OB, 2, none⟩ = some (.int .i64 pi) ∧ W.cell? ⟨OB, 3, none⟩ = some (.slice pa2 pn2 pc2))) := Lib.hid (fun W t => by
         have k := t.keeps HOB.out (fun h => h)
         exact ⟨cell_of_cells k 0, cell_of_cells k 1, cell_of_cells k 2, cell_of_cells k 3⟩)
        obtain ⟨fa, fc, hfl, hfr⟩ := HQ.out.rows
        have HFL : RowKit.Hid (∀ W, Touch W8 W (fun _ => False) → W.cell? ⟨b, 0, none⟩ = some (.slice fa L2.length fc)) := Lib.hid (fun W t => (t.cell (block_lt_of_cell hfl) (fun h => h)).trans hfl)
        have HFR := Lib.hid hfr
        have HCO : RowKit.Hid (∀ W, Touch W8 W (fun _ => False) → Calls Tryz.prog 21 #[.agg #[.int .i64 pv, .int .i64 pr, .int .i64 pi, .slice pa pn pc], .agg #[.int .i64 pv, .int .i64 pr, .int .i64 pi, .slice pa2 pn2 pc2]] W fun e w' => e = .returned (.bool true) ∧ Touch W w' (fun _ => False)) := Lib.hid (fun W t => out23_any pv pr pi pa pn pc pa2 pn2 pc2 zs W (HPR.out.stillP t) (HPR2.out.stillP t))
        have HCR : RowKit.Hid (∀ W, Touch W8 W (fun _ => False) → Calls Tryz.prog 22 #[.slice qa rs.length qc, .slice qa2 rs.length qc2] W fun e w' => e = .returned (.bool true) ∧ Touch W w' (fun _ => False)) := Lib.hid (fun W t => rsrecs0_any W qa rs.length qc rs qa2 qc2 (HQR.out.still t) (HQR2.out.still t) HRS.out)
        have HCA : RowKit.Hid (∀ W, Touch W8 W (fun _ => False) → Calls Tryz.prog 24 #[.pointer (some ⟨g, 0, none⟩)] W fun e w' => ∃ a1 c1, e = .returned (.slice a1 L2.length c1) ∧ RowS w' a1 L2.length c1 8 (L2.map fcl) ∧ Touch W w' (fun _ => False)) := Lib.hid (fun W t => by
         refine (HQ.out.still t).all.mono ?_
         rintro e w' ⟨a1, c1, l1, rfl, h1, h2, h3, h4, h5⟩
         obtain rfl := HLK2.out.all h1 h2
         exact ⟨a1, c1, rfl, (h4.row').2.1, h5⟩)
        have HCF : RowKit.Hid (∀ (W : World) (a1 : Option Addr) (c1 : Nat), Touch W8 W (fun _ => False) → RowS W a1 L2.length c1 8 (L2.map fcl) → Calls Tryz.prog 23 #[.slice a1 L2.length c1, .slice fa L2.length fc] W fun e w' => e = .returned (.bool true) ∧ Touch W w' (fun _ => False)) := Lib.hid (fun W a1 c1 t h => samefl_any W a1 fa L2.length c1 fc L2 h (HFR.out.still t) (by have := HLK2.out.rlen (by have := HN1.out; omega); omega))
        clear hfl hfr
        go_wp2_with fail
        have hS := (Touch.refl W8 (fun _ => False)).drew
        refine wp_region_sched (fun w' => Touch W8 w' (fun _ => False)) [(0, true), (1, true), (2, true), (3, false), (4, true), (5, true), (6, true), (7, true), (8, true), (9, false), (10, true), (11, true), (12, true), (13, true), (15, true), (16, true), (17, true), (18, true), (14, false), (19, false), (20, true), (21, true)] (by kernel_rfl) (by kernel_rfl) rfl (by kernel_rfl) hS ?_
        iterate 3 ((refine walkS_take (v := ?_) (some _) rfl rfl (fun _ _ _ h => h) (by rfl) ?_ ?_; rotate_left; (focus (intro w' hw'; obtain ⟨p0, p1, p2, p3, p4⟩ := HA5.out w' hw'; obtain ⟨o0, o1, o2, o3⟩ := HO4.out w' hw'; have f0 := HFL.out w' hw'; go_simp; (try with_reducible rfl))); (try simp only [Act.put, List.setIfInBounds_toArray, List.set_cons_zero, List.set_cons_succ])))
        (refine walkS_call 123 _ _ _ _ ((HCO.out _ hS)) rfl rfl rfl (by rfl) rfl (enter_out23 _ _ _) ?_; rintro e w' ⟨rfl, t⟩; have hS := hS.trans t (fun _ _ h => h); clear t; refine ⟨_, rfl, hS, fun hS => ?_⟩; (try simp only [Act.put, List.setIfInBounds_toArray, List.set_cons_zero, List.set_cons_succ]))
        iterate 2 ((refine walkS_take (v := ?_) (some _) rfl rfl (fun _ _ _ h => h) (by rfl) ?_ ?_; rotate_left; (focus (intro w' hw'; obtain ⟨p0, p1, p2, p3, p4⟩ := HA5.out w' hw'; obtain ⟨o0, o1, o2, o3⟩ := HO4.out w' hw'; have f0 := HFL.out w' hw'; go_simp; (try with_reducible rfl))); (try simp only [Act.put, List.setIfInBounds_toArray, List.set_cons_zero, List.set_cons_succ])))
        iterate 3 (first | (refine walkS_skip (some _) rfl rfl (by rfl) (fun _ _ _ h => h) hS ?_; (try simp only [Act.put, List.setIfInBounds_toArray, List.set_cons_zero, List.set_cons_succ])) | (refine walkS_take (v := ?_) (some _) rfl rfl (fun _ _ _ h => h) (by rfl) ?_ ?_; rotate_left; (focus (intro w' hw'; obtain ⟨p0, p1, p2, p3, p4⟩ := HA5.out w' hw'; obtain ⟨o0, o1, o2, o3⟩ := HO4.out w' hw'; have f0 := HFL.out w' hw'; go_simp; (try with_reducible rfl))); (try simp only [Act.put, List.setIfInBounds_toArray, List.set_cons_zero, List.set_cons_succ])))
        first | (refine walkS_skip (some 129) rfl rfl (by rfl) (fun _ _ _ h => h) hS ?_; (try simp only [Act.put, List.setIfInBounds_toArray, List.set_cons_zero, List.set_cons_succ])) | (refine walkS_call 129 _ _ _ _ ((HCR.out _ hS)) rfl rfl rfl (by rfl) rfl (enter_srecs23 _ _ _) ?_; rintro e w' ⟨rfl, t⟩; have hS := hS.trans t (fun _ _ h => h); clear t; refine ⟨_, rfl, hS, fun hS => ?_⟩; (try simp only [Act.put, List.setIfInBounds_toArray, List.set_cons_zero, List.set_cons_succ]))
        first | (refine walkS_skip (some 130) rfl rfl (by rfl) (fun _ _ _ h => h) hS ?_; (try simp only [Act.put, List.setIfInBounds_toArray, List.set_cons_zero, List.set_cons_succ])) | (refine walkS_take (v := ?_) (some 130) rfl rfl (fun _ _ _ h => h) (by rfl) ?_ ?_; rotate_left; (focus (intro w' hw'; obtain ⟨p0, p1, p2, p3, p4⟩ := HA5.out w' hw'; obtain ⟨o0, o1, o2, o3⟩ := HO4.out w' hw'; have f0 := HFL.out w' hw'; go_simp; (try with_reducible rfl))); (try simp only [Act.put, List.setIfInBounds_toArray, List.set_cons_zero, List.set_cons_succ]))
        iterate 2 ((refine walkS_take (v := ?_) (some _) rfl rfl (fun _ _ _ h => h) (by rfl) ?_ ?_; rotate_left; (focus (intro w' hw'; obtain ⟨p0, p1, p2, p3, p4⟩ := HA5.out w' hw'; obtain ⟨o0, o1, o2, o3⟩ := HO4.out w' hw'; have f0 := HFL.out w' hw'; go_simp; (try with_reducible rfl))); (try simp only [Act.put, List.setIfInBounds_toArray, List.set_cons_zero, List.set_cons_succ])))
        iterate 5 (first | (refine walkS_skip (some _) rfl rfl (by rfl) (fun _ _ _ h => h) hS ?_; (try simp only [Act.put, List.setIfInBounds_toArray, List.set_cons_zero, List.set_cons_succ])) | (refine walkS_take (v := ?_) (some _) rfl rfl (fun _ _ _ h => h) (by rfl) ?_ ?_; rotate_left; (focus (intro w' hw'; obtain ⟨p0, p1, p2, p3, p4⟩ := HA5.out w' hw'; obtain ⟨o0, o1, o2, o3⟩ := HO4.out w' hw'; have f0 := HFL.out w' hw'; go_simp; (try with_reducible rfl))); (try simp only [Act.put, List.setIfInBounds_toArray, List.set_cons_zero, List.set_cons_succ])))
        first | (refine walkS_skip (some 134) rfl rfl (by rfl) (fun _ _ _ h => h) hS ?_; (try simp only [Act.put, List.setIfInBounds_toArray, List.set_cons_zero, List.set_cons_succ])) | (refine walkS_call 134 _ _ _ _ ((HCA.out _ hS)) rfl rfl rfl (by rfl) rfl (enter_fall23 _ _) ?_; rintro e w' ⟨a1, c1, rfl, hr1, t⟩; have HR1 := Lib.hid hr1; have hS := hS.trans t (fun _ _ h => h); clear t hr1; refine ⟨_, rfl, hS, fun hS => ?_⟩; (try simp only [Act.put, List.setIfInBounds_toArray, List.set_cons_zero, List.set_cons_succ]))
        first | (refine walkS_skip (some 139) rfl rfl (by rfl) (fun _ _ _ h => h) hS ?_; (try simp only [Act.put, List.setIfInBounds_toArray, List.set_cons_zero, List.set_cons_succ])) | (refine walkS_call 139 _ _ _ _ ((HCF.out _ _ _ hS HR1.out)) rfl rfl rfl (by rfl) rfl (enter_sflows23 _ _ _) ?_; rintro e w' ⟨rfl, t⟩; have hS := hS.trans t (fun _ _ h => h); clear t; refine ⟨_, rfl, hS, fun hS => ?_⟩; (try simp only [Act.put, List.setIfInBounds_toArray, List.set_cons_zero, List.set_cons_succ]))
        first | (refine walkS_skip (some 140) rfl rfl (by rfl) (fun _ _ _ h => h) hS ?_; (try simp only [Act.put, List.setIfInBounds_toArray, List.set_cons_zero, List.set_cons_succ])) | (refine walkS_take (v := ?_) (some 140) rfl rfl (fun _ _ _ h => h) (by rfl) ?_ ?_; rotate_left; (focus (intro w' hw'; obtain ⟨p0, p1, p2, p3, p4⟩ := HA5.out w' hw'; obtain ⟨o0, o1, o2, o3⟩ := HO4.out w' hw'; have f0 := HFL.out w' hw'; go_simp; (try with_reducible rfl))); (try simp only [Act.put, List.setIfInBounds_toArray, List.set_cons_zero, List.set_cons_succ]))
        (refine walkS_take (v := ?_) (some 141) rfl rfl (fun _ _ _ h => h) (by rfl) ?_ ?_; rotate_left; (focus (intro w' hw'; obtain ⟨p0, p1, p2, p3, p4⟩ := HA5.out w' hw'; obtain ⟨o0, o1, o2, o3⟩ := HO4.out w' hw'; have f0 := HFL.out w' hw'; go_simp; (try with_reducible rfl))); (try simp only [Act.put, List.setIfInBounds_toArray, List.set_cons_zero, List.set_cons_succ]))
        refine walkS_done ?_
        have HSS := Lib.hid hS
        clear hS
        go_wp2_with fail
        go_meet
        exact ⟨rfl, HSS.out⟩
      case rest =>
       obtain ⟨rfl, tx⟩ := hcut
       obtain ⟨wE, hwE⟩ : ∃ W, wc = W := ⟨_, rfl⟩
       rw [hwE] at tx ⊢
       have HQ := Lib.hid (HQ.out.still tx)
       clear tx hwE HPR HPR2 HQR HQR2 HAC HOB
       go_wp2_with fail
       try rw [HWK.out]
       go_roundw
       ·exact HX.out _ _ _ _ _ _ (HQ.out.mono (by omega)) HLK2.out
       ·simp only [RowKit.intOf]; omega
open Go.ChangeShapes Go.WideShapes Go.ChangeAt in
set_option maxRecDepth 20000 in
theorem pathPlays_holds : Rows.PathPlaysSaid := by
 refine pathPlays.said fun H enc W base v0 v1 v2 v3 d0 d1 d2 d3 p0 p1 p2 p3 h0 h1 h2 h3 => ?_
 obtain ⟨m0, rfl, -⟩ := h0.int Tryz.underlying3
 obtain ⟨u0, rfl, -⟩ := h1.int Tryz.underlying3
 obtain ⟨gen, rfl, -⟩ := h2.int Tryz.underlying3
 obtain ⟨a, cap, l, rfl, hr, hok⟩ := h3.callsP
 exact (plays23_walk m0 u0 gen a l.length cap l W hr hok).mono fun e w' h => ⟨h.1, h.2.below (fun _ _ h => h.elim) (Nat.le_refl _)⟩
end Go.Proofs.YtpjdcgjoepjmcaaGreat
