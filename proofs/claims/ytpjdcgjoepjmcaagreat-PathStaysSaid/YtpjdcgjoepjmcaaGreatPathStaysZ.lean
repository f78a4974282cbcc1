import Derived.Test.YtpjdcgjoepjmcaaGreatKNZ
import Derived.Test.YtpjdcgjoepjmcaaGreatFrPathStaysZ
import Derived.Test.YtpjdcgjoepjmcaaGreatKLZ
import Derived.Test.YtpjdcgjoepjmcaaGreatTupArgsZ
import Derived.Deep.DeepCutAuto
set_option linter.unusedVariables false
set_option linter.unusedSimpArgs false
namespace Go.Proofs.YtpjdcgjoepjmcaaGreat
open Go.RowKit

theorem mayB_kS (k : TupD) : mayB (kOf k) = mayTB k := by
  rw [Bool.eq_iff_iff, may_iff, mayTB_iff]
  simp only [kOf]
  constructor
  · rintro ⟨a, b, c, d, e⟩; exact ⟨a, ⟨b, c⟩, d, e⟩
  · rintro ⟨a, ⟨b, c⟩, d, e⟩; exact ⟨a, b, c, d, e⟩
theorem mayT23S (k : TupD) (w : World) : Calls Tryz.prog 26 #[.agg (tcs k)] w fun e w' => e = .returned (.bool (mayTB k)) ∧ Touch w w' (fun _ => False) := by
  rw [← mayB_kS]; exact may_any (kOf k) w
set_option maxRecDepth 20000 in
set_option maxHeartbeats 32000000 in
theorem stays23_walk (t : TupD) (ot : TupOk t) (a : Option Addr) (len cap : Nat) (l : List CallP) (w : World) (hr : RowS w a len cap 12 (l.map CallP.cells)) (hok : ∀ c ∈ l, CallPOk w c) : Calls Tryz.prog 5 #[.agg (tcs t), .slice a len cap] w fun e w' => e = .returned (.bool true) ∧ Touch w w' (fun _ => False) := by
  obtain ⟨W1, hW1⟩ : ∃ W, w.alloc (.cells (tcs t) 37) = W := ⟨_, rfl⟩
  have t1 : Touch w W1 (fun _ => False) := hW1 ▸ (Touch.refl w _).alloc _
  have g1 : W1.heap[w.heap.size]? = some (.cells (tcs t) 37 (0, 0)) := hW1 ▸ heap_alloc_new ..
  obtain ⟨KB, hKB⟩ : ∃ K, w.heap.size = K := ⟨_, rfl⟩
  rw [hKB] at g1
  have HT1 := Lib.hid t1
  have HG1 := Lib.hid g1
  have HW1 := Lib.hid (And.intro hW1 hKB)
  have HCFG := Lib.hid (fun W => config_any (8 : Int) W)
  simp only [cfg23, cfgC] at HCFG
  have HLN : RowKit.Hid (l.length = len) := Lib.hid (by have := hr.hlen; simpa using this)
  have hMT := mayT23S t W1
  obtain ⟨mt, hmt⟩ : ∃ b, mayTB t = b := ⟨_, rfl⟩
  rw [hmt] at hMT
  have HMC := Lib.hid hMT
  simp only [tcs] at HMC
  have HR0 := Lib.hid hr
  have HOK0 := Lib.hid hok
  obtain ⟨q0, q1, q2, q3, q4⟩ : W1.cell? ⟨KB, 0, none⟩ = some (.int .u32 t.src) ∧ W1.cell? ⟨KB, 1, none⟩ = some (.int .u32 t.dst) ∧ W1.cell? ⟨KB, 2, none⟩ = some (.int .i64 t.proto) ∧ W1.cell? ⟨KB, 3, none⟩ = some (.int .i64 t.sport) ∧ W1.cell? ⟨KB, 4, none⟩ = some (.int .i64 t.dport) := ⟨cell_of_cells g1 0, cell_of_cells g1 1, cell_of_cells g1 2, cell_of_cells g1 3, cell_of_cells g1 4⟩
  clear t1 g1 hW1 hKB hMT hr hok
  go_enter Tryz.func5, Tryz.ntmps5
  go_upto_region 1 with (fail)
  rw [HW1.out.1, HW1.out.2]
  cases mt with
  | false =>
    go_wp2_with fail
    (with_reducible refine HMC.out.mono ?_)
    rintro e w5 ⟨rfl, t5⟩
    have HT5 := Lib.hid t5
    clear t5
    go_wp2_with fail
    refine (awake23 w5).mono ?_
    rintro e w7 ⟨rfl, t7⟩
    have HT7 := Lib.hid (HT1.out.trans (HT5.out.trans t7 (fun _ _ h => h)) (fun _ _ h => h))
    clear t7
    go_wp2_with fail
    go_ret
    exact ⟨rfl, HT7.out⟩
  | true =>
    have HMT := Lib.hid hmt
    clear hmt
    go_wp2_with fail
    (with_reducible refine HMC.out.mono ?_)
    rintro e w5 ⟨rfl, t5⟩
    have HT5 := Lib.hid (HT1.out.trans t5 (fun _ _ h => h))
    have HKB5 := Lib.hid (t5.keeps HG1.out (fun h => h))
    have HKL := Lib.hid (heap_lt HKB5.out)
    have HR := Lib.hid (HR0.out.still HT5.out)
    clear t5 q0 q1 q2 q3 q4 HG1 HMC HR0
    go_wp2_with fail
    refine (fnew_any w5 8 1000).mono ?_
    rintro e w0 ⟨g, h, rfl, n0, t0, f0⟩
    have n0' : FS w0 g h 8 1000 [] := n0
    have N0 := Lib.hid (FN.mk n0' t0 f0)
    clear n0 n0' t0 f0
    go_wp2_with fail
    refine (new_off 13 w0 prm13).mono ?_
    rintro e w1 ⟨C, G0, rfl, hc, hC, hG, hi, t1⟩
    have HPW0 : RowKit.Hid (PW w5 w1 g h 8 1000 [] C 13 [] (tabF [] 13) none 0 0 G0 0) := Lib.hid (PW.fresh N0.out (by omega) t1 hc hC hG hi)
    have HCw : RowKit.Hid (w5.heap.size ≤ C) := Lib.hid (Nat.le_trans N0.out.t.size hC)
    clear hi t1 hc hC hG N0
    obtain ⟨wa, hwa⟩ : ∃ W, w1.alloc (.cells #[.int .i64 1, .int .u32 1, .int .i64 1, .int .i64 2, .int .u32 2, .int .i64 2, .int .i64 3, .int .u32 3, .int .i64 1] 70) = W := ⟨_, rfl⟩
    have HK1 : RowKit.Hid (RowK wa (some ⟨w1.heap.size, 0, none⟩) 3 3 bksH) := Lib.hid
      (hwa ▸ ((OwnS.lit w1 w1.heap.size (Nat.le_refl _) 70 3 3 (bksH.map BkD.cells) _ rfl rfl (by simp [bksH, BkD.cells]) (by omega)).row').2.1)
    have ta : Touch w1 wa (fun _ => False) := hwa ▸ (Touch.refl w1 _).alloc _
    have HPWa := Lib.hid (HPW0.out.still ta)
    obtain ⟨B1, hB1⟩ : ∃ B, w1.heap.size = B := ⟨_, rfl⟩
    rw [hB1] at HK1
    have HCB : RowKit.Hid (C < B1) := Lib.hid (by rw [← hB1]; exact HPW0.out.l.1)
    have HWA := Lib.hid (And.intro hwa hB1)
    clear ta hwa hB1 HPW0
    go_upto_region 5 with (fail)
    rw [HWA.out.1, HWA.out.2]
    go_wp2_with fail
    refine (set_out 13 .nilFunc bksH C _ _ _ _ _ _ 0 _ 3 3 bksH _ prm13 (by omega) HPWa.out.c.hc HK1.out gmayH (fun x hx => .inr (fun h => by have h9 := HCB.out; cases hx; simp at h; omega)) (fun W t => without_nil _ 3 3 bksH W (HK1.out.touch t (fun _ _ => .inr (fun h => h))) (by omega))).mono ?_
    rintro e s3 ⟨rfl, a3, c3, G3, hc3, hk3, hi3, hb3, hG3, t3⟩
    have HPS : RowKit.Hid (PS w5 s3 g C 1 [] [] ZF) := Lib.hid (PS.first (PW.made HPWa.out.f (by omega) HPWa.out.l.1 HPWa.out.o.1 HCw.out t3 hc3 hk3 hi3 hb3 hG3) HCw.out (fun x hx => Nat.le_trans HPWa.out.f.t.size (hb3 x hx)) (Nat.le_trans HPWa.out.f.t.size hG3))
    clear hc3 hk3 hi3 hb3 hG3 t3 HK1 HPWa HCB HWA HCw
    obtain ⟨b0, hb1, hb2, hb3⟩ := pick_home prm13 t HMT.out
    obtain ⟨n, hn⟩ : ∃ n, n = 20 + sizeK (kOf t) 0 := ⟨_, rfl⟩
    have HMK : RowKit.Hid (∀ W, Calls Tryz.prog 27 #[.agg (tcs t), .int .i64 9, .int .i64 0, .slice none 0 0] W fun e w' => ∃ a' cap', e = .returned (.slice a' n cap') ∧ FreshB W w' (.slice a' n cap') (madeF (kOf t) 9 0 [])) := Lib.hid (fun W => made_any (kOf t) (ok_k ot) 9 0 none 0 0 [] W (RowB.nil _ _ _ (by omega)) (by omega) (by simp [isI64]) (by simp [isI64]) n hn)
    have HPKT := Lib.hid (fun (W : World) (K : List Nat) (ma : Option Addr) (mc : Nat) (p : PS w5 W g C 1 [] K ZF) (r : RowB W ma n mc (madeF (kOf t) 9 0 [])) => p.pk1 t ot HMT.out b0 hb1 hb3 hb2 ma n mc r)
    have HPKK := Lib.hid (fun (W : World) (K : List Nat) (mb : Nat) (M : List FlD) (hm : Int) (ma : Option Addr) (mc : Nat) (p : PS w5 W g C mb M K (ZH t hm)) (r : RowB W ma n mc (madeF (kOf t) 9 0 [])) => p.pkK ot HMT.out ma n mc r)
    generalize b0.id = hm at HPKT
    generalize madeF (kOf t) 9 0 [] = xs0 at HMK HPKT HPKK
    simp only [cfg23, cfgC, tcs] at HMK HPKT HPKK
    clear hb1 hb2 hb3 hn
    have HKB := Lib.hid (HPS.out.touch.keeps HKB5.out (fun h => h))
    go_upto_region 7 with (fail)
    go_cut [8] (fun s8 wx => ∃ AC pa pn pc qa qn qc M1, s8 = .pointer (some ⟨AC, 0, none⟩) ∧ wx.heap[AC]? = some (.cells (planV 2 0 hm (.slice pa pn pc) (.slice qa qn qc)) 53 (0, 0)) ∧ PS w5 wx g C 1 M1 [AC] (ZH t hm))
    case first =>
      as_aux_lemma =>
        have HPS := Lib.hid (HPS.out.still (Touch.refl s3 (fun _ => False)).drew)
        have HKB : RowKit.Hid (s3.drew.heap[KB]? = some (.cells (tcs t) 37 (0, 0))) := Lib.hid HKB.out
        go_wp2_with fail
        have hS := HKB.out
        refine wp_region_tree (fun w' => w'.heap[KB]? = some (.cells (tcs t) 37 (0, 0))) (.take 1 (.take 2 (.take 3 (.two 0 6 (.two 4 6 (.two 5 6 (.one 6 (.one 7 .fin)) (.one 5 (.one 7 .fin))) (.one 4 (.one 5 (.one 7 .fin)))) (.one 0 (.one 4 (.one 5 (.one 7 .fin)))))))) (by kernel_rfl) (by kernel_rfl) (by kernel_rfl) (by kernel_rfl) hS ?_
        refine walkT_take ?_
        (refine takeN_take (v := ?_) (some 37) rfl rfl (fun _ _ _ h => h) (by rfl) ?_ ?_; rotate_left; (focus (intro w' hw'; go_simp; (try with_reducible rfl))); (try simp only [Act.put, List.setIfInBounds_toArray, List.set_cons_zero, List.set_cons_succ]))
        refine walkT_take ?_
        (refine takeN_take (v := ?_) (some 38) rfl rfl (fun _ _ _ h => h) (by rfl) ?_ ?_; rotate_left; (focus (intro w' hw'; go_simp; (try with_reducible rfl))); (try simp only [Act.put, List.setIfInBounds_toArray, List.set_cons_zero, List.set_cons_succ]))
        refine walkT_take ?_
        (refine takeN_row (some 39) rfl rfl 37 (.tmp 2) rfl (KB) rfl _ _ _ _ (fun w' h => h) Tryz.underlying37 rfl infoT (fun _ _ _ h => h) (by rfl) ?_; (try simp only [Act.put, List.setIfInBounds_toArray, List.set_cons_zero, List.set_cons_succ]))
        refine walkT_two ?_ ?_
        · (refine runN_call 36 9 _ _ _ (HCFG.out _) rfl rfl rfl (by rfl) rfl (enter_config _ _) ?_; rintro e wa ⟨rfl, ta⟩; (try have HAC := Lib.hid (ta.keeps HAC.out (fun h => h))); (try have HROW := Lib.hid (HROW.out.touch ta (fun _ _ => .inr (fun h => h)))); have HKB := Lib.hid (ta.keeps HKB.out (fun h => h)); have HPS := Lib.hid (HPS.out.still ta); refine ⟨_, rfl, HKB.out, fun hS => ?_⟩; clear ta; (try simp only [Act.put, List.setIfInBounds_toArray, List.set_cons_zero, List.set_cons_succ]))
          refine walkT_two ?_ ?_
          · (refine runN_call 40 27 _ _ _ (HMK.out _) rfl rfl rfl (by rfl) rfl (enter_made _ _ _ _ _) ?_; rintro e wb ⟨ma, mc, rfl, hfb⟩; have tb := hfb.2; (try have HAC := Lib.hid (tb.keeps HAC.out (fun h => h))); (try have HROW := Lib.hid (HROW.out.touch tb (fun _ _ => .inr (fun h => h)))); have HKB := Lib.hid (tb.keeps HKB.out (fun h => h)); have HPS := Lib.hid (HPS.out.still tb); have HROW := Lib.hid hfb.row'.2; refine ⟨_, rfl, HKB.out, fun hS => ?_⟩; clear tb hfb; (try simp only [Act.put, List.setIfInBounds_toArray, List.set_cons_zero, List.set_cons_succ]))
            refine walkT_two ?_ ?_
            · (refine runN_call 41 18 _ _ _ (HPKT.out _ _ _ _ HPS.out HROW.out) rfl rfl rfl (by rfl) rfl (enter_packet _ _ _ _ _ _ _) ?_; rintro e wc ⟨pa, pn, pc, qa, qn, qc, M1, rfl, hps, tc⟩; (try have HAC := Lib.hid (TK.cells tc List.mem_cons_self HAC.out)); have HKB := Lib.hid (tc.keeps HKB.out (fun e => by have h1 := e.1; have h2 := HKL.out; omega)); have HPS := Lib.hid hps; refine ⟨_, rfl, HKB.out, fun hS => ?_⟩; clear hps tc; (try simp only [Act.put, List.setIfInBounds_toArray, List.set_cons_zero, List.set_cons_succ]))
              refine walkT_one ?_
              (have HAL := Lib.hid HPS.out.touch.size; have HKA := Lib.hid (Nat.ne_of_lt (heap_lt HKB.out)); refine runN_new 8 (fun W => .pointer (some ⟨W.heap.size, 0, none⟩)) (planV 0 0 0 (.slice none 0 0) (.slice none 0 0)) 53 rfl rfl (by rfl) (by intro W; go_simp <;> first | with_reducible rfl | rfl | exact ⟨rfl, rfl⟩) ?_; intro w7 hw7 hM7 hs7 t7; (try have HAC := Lib.hid (t7.keeps HAC.out (fun h => h))); (try have HROW := Lib.hid (HROW.out.touch t7 (fun _ _ => .inr (fun h => h)))); have HKB := Lib.hid (t7.keeps HKB.out (fun h => h)); have HPS := Lib.hid (HPS.out.add t7 _ (Nat.le_refl _) (heap_lt hM7)); have HAC := Lib.hid hM7; refine ⟨HKB.out, fun _ => ?_⟩; clear hw7 hs7 hM7 t7; (try simp only [Act.put, List.setIfInBounds_toArray, List.set_cons_zero, List.set_cons_succ]))
              refine walkT_one ?_
              (refine runN_store rfl rfl (by rfl) 53 _ _ rfl _ (planV 2 0 hm (.slice pa pn pc) (.slice qa qn qc)) rfl rfl _ _ HAC.out infoPlan rfl rfl ?_; intro w8 hM8 t8; have HAC := Lib.hid hM8; have HKB := Lib.hid (t8.keeps HKB.out HKA.out); have HPS := Lib.hid (HPS.out.set _ List.mem_cons_self HAL.out t8); refine ⟨HKB.out, fun hS => ?_⟩; clear hM8 t8; (try simp only [Act.put, List.setIfInBounds_toArray, List.set_cons_zero, List.set_cons_succ]))
              refine walkT_fin ?_
              go_wp2_with fail
              go_meet
              exact ⟨_, _, _, _, _, _, _, _, rfl, HAC.out, HPS.out⟩
            · (have HAL := Lib.hid HPS.out.touch.size; have HKA := Lib.hid (Nat.ne_of_lt (heap_lt HKB.out)); refine runN_new 8 (fun W => .pointer (some ⟨W.heap.size, 0, none⟩)) (planV 0 0 0 (.slice none 0 0) (.slice none 0 0)) 53 rfl rfl (by rfl) (by intro W; go_simp <;> first | with_reducible rfl | rfl | exact ⟨rfl, rfl⟩) ?_; intro w7 hw7 hM7 hs7 t7; (try have HAC := Lib.hid (t7.keeps HAC.out (fun h => h))); (try have HROW := Lib.hid (HROW.out.touch t7 (fun _ _ => .inr (fun h => h)))); have HKB := Lib.hid (t7.keeps HKB.out (fun h => h)); have HPS := Lib.hid (HPS.out.add t7 _ (Nat.le_refl _) (heap_lt hM7)); have HAC := Lib.hid hM7; refine ⟨HKB.out, fun _ => ?_⟩; clear hw7 hs7 hM7 t7; (try simp only [Act.put, List.setIfInBounds_toArray, List.set_cons_zero, List.set_cons_succ]))
              refine walkT_one ?_
              (refine runN_call 41 18 _ _ _ (HPKT.out _ _ _ _ HPS.out HROW.out) rfl rfl rfl (by rfl) rfl (enter_packet _ _ _ _ _ _ _) ?_; rintro e wc ⟨pa, pn, pc, qa, qn, qc, M1, rfl, hps, tc⟩; (try have HAC := Lib.hid (TK.cells tc List.mem_cons_self HAC.out)); have HKB := Lib.hid (tc.keeps HKB.out (fun e => by have h1 := e.1; have h2 := HKL.out; omega)); have HPS := Lib.hid hps; refine ⟨_, rfl, HKB.out, fun hS => ?_⟩; clear hps tc; (try simp only [Act.put, List.setIfInBounds_toArray, List.set_cons_zero, List.set_cons_succ]))
              refine walkT_one ?_
              (refine runN_store rfl rfl (by rfl) 53 _ _ rfl _ (planV 2 0 hm (.slice pa pn pc) (.slice qa qn qc)) rfl rfl _ _ HAC.out infoPlan rfl rfl ?_; intro w8 hM8 t8; have HAC := Lib.hid hM8; have HKB := Lib.hid (t8.keeps HKB.out HKA.out); have HPS := Lib.hid (HPS.out.set _ List.mem_cons_self HAL.out t8); refine ⟨HKB.out, fun hS => ?_⟩; clear hM8 t8; (try simp only [Act.put, List.setIfInBounds_toArray, List.set_cons_zero, List.set_cons_succ]))
              refine walkT_fin ?_
              go_wp2_with fail
              go_meet
              exact ⟨_, _, _, _, _, _, _, _, rfl, HAC.out, HPS.out⟩
          · (have HAL := Lib.hid HPS.out.touch.size; have HKA := Lib.hid (Nat.ne_of_lt (heap_lt HKB.out)); refine runN_new 8 (fun W => .pointer (some ⟨W.heap.size, 0, none⟩)) (planV 0 0 0 (.slice none 0 0) (.slice none 0 0)) 53 rfl rfl (by rfl) (by intro W; go_simp <;> first | with_reducible rfl | rfl | exact ⟨rfl, rfl⟩) ?_; intro w7 hw7 hM7 hs7 t7; (try have HAC := Lib.hid (t7.keeps HAC.out (fun h => h))); (try have HROW := Lib.hid (HROW.out.touch t7 (fun _ _ => .inr (fun h => h)))); have HKB := Lib.hid (t7.keeps HKB.out (fun h => h)); have HPS := Lib.hid (HPS.out.add t7 _ (Nat.le_refl _) (heap_lt hM7)); have HAC := Lib.hid hM7; refine ⟨HKB.out, fun _ => ?_⟩; clear hw7 hs7 hM7 t7; (try simp only [Act.put, List.setIfInBounds_toArray, List.set_cons_zero, List.set_cons_succ]))
            refine walkT_one ?_
            (refine runN_call 40 27 _ _ _ (HMK.out _) rfl rfl rfl (by rfl) rfl (enter_made _ _ _ _ _) ?_; rintro e wb ⟨ma, mc, rfl, hfb⟩; have tb := hfb.2; (try have HAC := Lib.hid (tb.keeps HAC.out (fun h => h))); (try have HROW := Lib.hid (HROW.out.touch tb (fun _ _ => .inr (fun h => h)))); have HKB := Lib.hid (tb.keeps HKB.out (fun h => h)); have HPS := Lib.hid (HPS.out.still tb); have HROW := Lib.hid hfb.row'.2; refine ⟨_, rfl, HKB.out, fun hS => ?_⟩; clear tb hfb; (try simp only [Act.put, List.setIfInBounds_toArray, List.set_cons_zero, List.set_cons_succ]))
            refine walkT_one ?_
            (refine runN_call 41 18 _ _ _ (HPKT.out _ _ _ _ HPS.out HROW.out) rfl rfl rfl (by rfl) rfl (enter_packet _ _ _ _ _ _ _) ?_; rintro e wc ⟨pa, pn, pc, qa, qn, qc, M1, rfl, hps, tc⟩; (try have HAC := Lib.hid (TK.cells tc List.mem_cons_self HAC.out)); have HKB := Lib.hid (tc.keeps HKB.out (fun e => by have h1 := e.1; have h2 := HKL.out; omega)); have HPS := Lib.hid hps; refine ⟨_, rfl, HKB.out, fun hS => ?_⟩; clear hps tc; (try simp only [Act.put, List.setIfInBounds_toArray, List.set_cons_zero, List.set_cons_succ]))
            refine walkT_one ?_
            (refine runN_store rfl rfl (by rfl) 53 _ _ rfl _ (planV 2 0 hm (.slice pa pn pc) (.slice qa qn qc)) rfl rfl _ _ HAC.out infoPlan rfl rfl ?_; intro w8 hM8 t8; have HAC := Lib.hid hM8; have HKB := Lib.hid (t8.keeps HKB.out HKA.out); have HPS := Lib.hid (HPS.out.set _ List.mem_cons_self HAL.out t8); refine ⟨HKB.out, fun hS => ?_⟩; clear hM8 t8; (try simp only [Act.put, List.setIfInBounds_toArray, List.set_cons_zero, List.set_cons_succ]))
            refine walkT_fin ?_
            go_wp2_with fail
            go_meet
            exact ⟨_, _, _, _, _, _, _, _, rfl, HAC.out, HPS.out⟩
        · (have HAL := Lib.hid HPS.out.touch.size; have HKA := Lib.hid (Nat.ne_of_lt (heap_lt HKB.out)); refine runN_new 8 (fun W => .pointer (some ⟨W.heap.size, 0, none⟩)) (planV 0 0 0 (.slice none 0 0) (.slice none 0 0)) 53 rfl rfl (by rfl) (by intro W; go_simp <;> first | with_reducible rfl | rfl | exact ⟨rfl, rfl⟩) ?_; intro w7 hw7 hM7 hs7 t7; (try have HAC := Lib.hid (t7.keeps HAC.out (fun h => h))); (try have HROW := Lib.hid (HROW.out.touch t7 (fun _ _ => .inr (fun h => h)))); have HKB := Lib.hid (t7.keeps HKB.out (fun h => h)); have HPS := Lib.hid (HPS.out.add t7 _ (Nat.le_refl _) (heap_lt hM7)); have HAC := Lib.hid hM7; refine ⟨HKB.out, fun _ => ?_⟩; clear hw7 hs7 hM7 t7; (try simp only [Act.put, List.setIfInBounds_toArray, List.set_cons_zero, List.set_cons_succ]))
          refine walkT_one ?_
          (refine runN_call 36 9 _ _ _ (HCFG.out _) rfl rfl rfl (by rfl) rfl (enter_config _ _) ?_; rintro e wa ⟨rfl, ta⟩; (try have HAC := Lib.hid (ta.keeps HAC.out (fun h => h))); (try have HROW := Lib.hid (HROW.out.touch ta (fun _ _ => .inr (fun h => h)))); have HKB := Lib.hid (ta.keeps HKB.out (fun h => h)); have HPS := Lib.hid (HPS.out.still ta); refine ⟨_, rfl, HKB.out, fun hS => ?_⟩; clear ta; (try simp only [Act.put, List.setIfInBounds_toArray, List.set_cons_zero, List.set_cons_succ]))
          refine walkT_one ?_
          (refine runN_call 40 27 _ _ _ (HMK.out _) rfl rfl rfl (by rfl) rfl (enter_made _ _ _ _ _) ?_; rintro e wb ⟨ma, mc, rfl, hfb⟩; have tb := hfb.2; (try have HAC := Lib.hid (tb.keeps HAC.out (fun h => h))); (try have HROW := Lib.hid (HROW.out.touch tb (fun _ _ => .inr (fun h => h)))); have HKB := Lib.hid (tb.keeps HKB.out (fun h => h)); have HPS := Lib.hid (HPS.out.still tb); have HROW := Lib.hid hfb.row'.2; refine ⟨_, rfl, HKB.out, fun hS => ?_⟩; clear tb hfb; (try simp only [Act.put, List.setIfInBounds_toArray, List.set_cons_zero, List.set_cons_succ]))
          refine walkT_one ?_
          (refine runN_call 41 18 _ _ _ (HPKT.out _ _ _ _ HPS.out HROW.out) rfl rfl rfl (by rfl) rfl (enter_packet _ _ _ _ _ _ _) ?_; rintro e wc ⟨pa, pn, pc, qa, qn, qc, M1, rfl, hps, tc⟩; (try have HAC := Lib.hid (TK.cells tc List.mem_cons_self HAC.out)); have HKB := Lib.hid (tc.keeps HKB.out (fun e => by have h1 := e.1; have h2 := HKL.out; omega)); have HPS := Lib.hid hps; refine ⟨_, rfl, HKB.out, fun hS => ?_⟩; clear hps tc; (try simp only [Act.put, List.setIfInBounds_toArray, List.set_cons_zero, List.set_cons_succ]))
          refine walkT_one ?_
          (refine runN_store rfl rfl (by rfl) 53 _ _ rfl _ (planV 2 0 hm (.slice pa pn pc) (.slice qa qn qc)) rfl rfl _ _ HAC.out infoPlan rfl rfl ?_; intro w8 hM8 t8; have HAC := Lib.hid hM8; have HKB := Lib.hid (t8.keeps HKB.out HKA.out); have HPS := Lib.hid (HPS.out.set _ List.mem_cons_self HAL.out t8); refine ⟨HKB.out, fun hS => ?_⟩; clear hM8 t8; (try simp only [Act.put, List.setIfInBounds_toArray, List.set_cons_zero, List.set_cons_succ]))
          refine walkT_fin ?_
          go_wp2_with fail
          go_meet
          exact ⟨_, _, _, _, _, _, _, _, rfl, HAC.out, HPS.out⟩
    case rest =>
      obtain ⟨AC, pa, pn, pc, qa, qn, qc, M1, rfl, hA, hP⟩ := hcut
      have y0 : wc.cell? ⟨AC, 0, none⟩ = some (.int .i64 2) := cell_of_cells hA 0
      have y2 : wc.cell? ⟨AC, 2, none⟩ = some (.int .i64 hm) := cell_of_cells hA 2
      have HPA := Lib.hid (hP.less (K' := []) (fun _ h => by cases h))
      clear hA hP HPKT HPS HKB
      obtain ⟨wz, hwz⟩ : ∃ W, wc = W := ⟨_, rfl⟩
      rw [hwz] at HPA y0 y2 ⊢
      clear hwz
      go_upto_region 11 with (fail)
      clear y0 y2
      go_wp2_with fail
      go_loopw [10] (fun s10 wr => ∃ (k : Nat) (M : List FlD), k ≤ len ∧ s10 = .int .i64 k ∧ PS w5 wr g C (k + 1) M [] (ZH t hm)) (fun s10 _ => len - (RowKit.intOf s10).toNat)
      case atStart => exact ⟨0, M1, Nat.zero_le _, rfl, HPA.out⟩
      case round =>
        obtain ⟨k, M, hk, rfl, hq⟩ := hrel
        have HPS := Lib.hid hq
        clear hq HPA
        by_cases hlt : k < len ∧ k < 40
        case neg =>
          have HTW := Lib.hid (HT5.out.trans HPS.out.touch (fun _ _ h => h))
          obtain ⟨stop, hstop⟩ : ∃ b : Bool, b = true := ⟨_, rfl⟩
          have hor : (¬ (k : Int) < len) ∨ ((k : Int) < len ∧ ¬ (k : Int) < 40) := by omega
          rcases hor with hlI | ⟨hlI, hlJ⟩
          all_goals
            go_wp2_with fail
            refine (awake23 wr).mono ?_
            rintro e w7 ⟨rfl, t7⟩
            have HT7 := Lib.hid (HTW.out.trans t7 (fun _ _ h => h))
            clear t7
            go_wp2_with fail
            go_ret
            exact ⟨rfl, HT7.out⟩
        case pos =>
          obtain ⟨hlt, h40⟩ := hlt
          have hlI : (k : Int) < len := by omega
          have hlJ : (k : Int) < 40 := by omega
          have hrx := HR.out.still HPS.out.touch
          obtain ⟨g0, off, rfl⟩ := hrx.some (by omega)
          have hkl : k < l.length := by rw [HLN.out]; omega
          have dd := callP_cells hrx k hkl
          have hcap := hrx.hcap
          have hmax := hrx.hmax
          have hwk : wrap64 ((k : Int) + 1) = (k : Int) + 1 := by unfold wrap64; omega
          have HWK := Lib.hid hwk
          have hcok := HOK0.out _ (gcP_mem l k hkl)
          generalize gcP l k = cc at *
          obtain ⟨d, ttl, fl, st, ba, bn, bc, xs, now, la, lc, L, oa, on, oc, O⟩ := cc
          obtain ⟨k0, k1, k2, k3, k4, k5, k6, k7, k8⟩ := hcok
          simp only at k0 k1 k2 k3 k4 k5 k6 k7 k8
          have HTW := Lib.hid (HT5.out.trans HPS.out.touch (fun _ _ h => h))
          have HST := Lib.hid k3
          have HI6 := Lib.hid (And.intro k1 k2)
          have HRB := Lib.hid (k4.stillP HTW.out)
          have HRBL := Lib.hid (fun x hx => (k4.lt x hx).imp (fun h => h) (fun h => Nat.lt_of_lt_of_le h HT5.out.size))
          have HRL := Lib.hid (k6.still HTW.out)
          have HRO := Lib.hid (k8.still HTW.out)
          have HLA : RowKit.Hid (∀ b ∈ gsortF (L ++ [⟨hm, 77, 1⟩]), 0 ≤ b.addr ∧ b.addr ≤ 4294967295) := Lib.hid (fun b hb => by
            rcases List.mem_append.1 (List.mem_of_mem_take (gsort_mem hb)) with h9 | h9
            · exact (k7 b h9).addr
            · obtain rfl := List.mem_singleton.1 h9; exact ⟨by show (0 : Int) ≤ 77; decide, by show (77 : Int) ≤ 4294967295; decide⟩)
          clear k0 k1 k2 k3 k4 k5 k6 k7 k8 hkl hcap hmax hwk hrx
          have d0 := dd 0 _ rfl
          have d1 := dd 1 _ rfl
          have d2 := dd 2 _ rfl
          have d3 := dd 3 _ rfl
          have d4 := dd 4 _ rfl
          have d5 := dd 5 _ rfl
          have d6 := dd 6 _ rfl
          have d7 := dd 7 _ rfl
          have d8 := dd 8 _ rfl
          have d9 := dd 9 _ rfl
          have d10 := dd 10 _ rfl
          have d11 := dd 11 _ rfl
          rw [Nat.add_zero] at d0
          clear dd
          obtain ⟨W2, hW2⟩ : ∃ W, wr.alloc (.cells #[.int .i64 d, .int .i64 ttl, .int .i64 fl, .int .u32 st.src, .int .u32 st.dst, .int .i64 st.proto, .int .i64 st.sport, .int .i64 st.dport, .slice ba bn bc, .int .i64 now, .slice la L.length lc, .slice oa on oc] 42) = W := ⟨_, rfl⟩
          obtain ⟨SB, hSB⟩ : ∃ B, wr.heap.size = B := ⟨_, rfl⟩
          have g2 : W2.heap[SB]? = some (.cells #[.int .i64 d, .int .i64 ttl, .int .i64 fl, .int .u32 st.src, .int .u32 st.dst, .int .i64 st.proto, .int .i64 st.sport, .int .i64 st.dport, .slice ba bn bc, .int .i64 now, .slice la L.length lc, .slice oa on oc] 42 (0, 0)) := hSB ▸ hW2 ▸ heap_alloc_new ..
          have t2 : Touch wr W2 (fun _ => False) := hW2 ▸ (Touch.refl wr _).alloc _
          have HPS := Lib.hid (HPS.out.still t2)
          have HRB := Lib.hid (HRB.out.stillP t2)
          have HRL := Lib.hid (HRL.out.still t2)
          have HRO := Lib.hid (HRO.out.still t2)
          have HTW := Lib.hid (HTW.out.trans t2 (fun _ _ h => h))
          have HSB := Lib.hid g2
          have HW2 := Lib.hid (And.intro hW2 hSB)
          have HX : RowKit.Hid (∀ wx M, PS w5 wx g C (k + 2) M [] (ZH t hm) → ∃ (k' : Nat) (M : List FlD), k' ≤ len ∧ Value.int .i64 ((k : Int) + 1) = .int .i64 k' ∧ PS w5 wx g C (k' + 1) M [] (ZH t hm)) := Lib.hid (fun wx M p => ⟨k + 1, M, by omega, by go_num, p⟩)
          clear t2 g2 hW2 hSB
          go_upto_region 15 with (fail)
          rw [HW2.out.1, HW2.out.2]
          clear d0 d1 d2 d3 d4 d5 d6 d7 d8 d9 d10 d11
          obtain ⟨s0, s1, s2, s3, s4, s5, s6, s7, s8, s9, s10, s11⟩ : W2.cell? ⟨SB, 0, none⟩ = some (.int .i64 d) ∧ W2.cell? ⟨SB, 1, none⟩ = some (.int .i64 ttl) ∧ W2.cell? ⟨SB, 2, none⟩ = some (.int .i64 fl) ∧ W2.cell? ⟨SB, 3, none⟩ = some (.int .u32 st.src) ∧ W2.cell? ⟨SB, 4, none⟩ = some (.int .u32 st.dst) ∧ W2.cell? ⟨SB, 5, none⟩ = some (.int .i64 st.proto) ∧ W2.cell? ⟨SB, 6, none⟩ = some (.int .i64 st.sport) ∧ W2.cell? ⟨SB, 7, none⟩ = some (.int .i64 st.dport) ∧ W2.cell? ⟨SB, 8, none⟩ = some (.slice ba bn bc) ∧ W2.cell? ⟨SB, 9, none⟩ = some (.int .i64 now) ∧ W2.cell? ⟨SB, 10, none⟩ = some (.slice la L.length lc) ∧ W2.cell? ⟨SB, 11, none⟩ = some (.slice oa on oc) := ⟨cell_of_cells HSB.out 0, cell_of_cells HSB.out 1, cell_of_cells HSB.out 2, cell_of_cells HSB.out 3, cell_of_cells HSB.out 4, cell_of_cells HSB.out 5, cell_of_cells HSB.out 6, cell_of_cells HSB.out 7, cell_of_cells HSB.out 8, cell_of_cells HSB.out 9, cell_of_cells HSB.out 10, cell_of_cells HSB.out 11⟩
          obtain ⟨ln, hln⟩ : ∃ n, L.length = n := ⟨_, rfl⟩
          rw [hln] at HRL s10 HSB HW2
          have HLL := Lib.hid hln
          by_cases h1 : 1400 < bn
          case pos =>
            have h1I : (1400 : Int) < bn := by omega
            go_wp2_with fail
            try rw [HWK.out]
            go_roundw
            · exact HX.out _ _ (HPS.out.mono (Nat.le_succ _))
            · simp only [RowKit.intOf]; omega
          case neg =>
          have h1I : ¬ (1400 : Int) < bn := by omega
          by_cases h2 : 12 < ln
          case pos =>
            have h2I : (12 : Int) < ln := by omega
            go_wp2_with fail
            try rw [HWK.out]
            go_roundw
            · exact HX.out _ _ (HPS.out.mono (Nat.le_succ _))
            · simp only [RowKit.intOf]; omega
          case neg =>
          have h2I : ¬ (12 : Int) < ln := by omega
          by_cases h3 : 20 < on
          case pos =>
            have h3I : (20 : Int) < on := by omega
            go_wp2_with fail
            try rw [HWK.out]
            go_roundw
            · exact HX.out _ _ (HPS.out.mono (Nat.le_succ _))
            · simp only [RowKit.intOf]; omega
          case neg =>
          have h3I : ¬ (20 : Int) < on := by omega
          have HI3 := Lib.hid (And.intro h1 (And.intro h2 h3))
          obtain ⟨b2, hb2⟩ : ∃ b, (d == (2 : Int)) = b := ⟨_, rfl⟩
          go_upto_if 81 with (fail)
          clear h1I h2I h3I h1 h2 h3 hb2
          go_cut [] (fun wx => ∃ M, PS w5 wx g C (k + 2) M [] (ZH t hm))
          case first =>
            cases b2 with
            | true =>
              have HNW : RowKit.Hid (∀ W : World, RowS (W.alloc (.cells #[.int .i64 hm, .int .u32 77, .int .i64 1] 70)) (some ⟨W.heap.size, 0, none⟩) 1 1 3 ([(⟨hm, 77, 1⟩ : BkD)].map BkD.cells)) := Lib.hid (fun W => ((OwnS.lit W W.heap.size (Nat.le_refl _) 70 3 1 ([(⟨hm, 77, 1⟩ : BkD)].map BkD.cells) _ rfl rfl (by simp [BkD.cells]) (by omega)).row').2.1)
              have HLB := Lib.hid (show ln ≤ 12 by have := HI3.out; omega)
              go_upto_region 18 with (first
                | (at_builtin; (with_reducible refine wp_appS (OwnS.nil W2 W2.heap.size 70 3) HRL.out.toS (one_bkK _) 39 Tryz.underlying39 _ 24 infoBk rfl (by decide) (by have := HLB.out; simp only [maxLen, List.length_nil]; omega) (by have := HLB.out; simp only [List.length_nil]; omega) ((Touch.refl W2 (fun _ => False)).under (Nat.le_refl _)) (Nat.le_refl _) (Nat.le_refl _) rfl _ _ rfl rfl rfl ln (L.map BkD.cells) (by simp) (by simp) ?_); intro a3 c3 w3 ho3 hg3 hb3 hp3; have HO3 := Lib.hid ho3; have HG3 := Lib.hid ((Touch.refl W2 (fun _ => False)).grown hg3 (fun k hk _ => by cases hk)); clear ho3 hg3 hb3 hp3)
                | (at_builtin; (with_reducible refine wp_appS (HO3.out.still ((Touch.refl w3 (fun _ => False)).alloc (.cells #[.int .i64 hm, .int .u32 77, .int .i64 1] 70))) (HNW.out w3) (one_bkK _) 39 Tryz.underlying39 _ 24 infoBk rfl (by decide) (by have := HLB.out; have := HLL.out; simp only [maxLen, List.length_map]; omega) (by have := HLB.out; have := HLL.out; simp only [List.length_map]; omega) ((HG3.out.alloc _).under (Nat.le_refl _)) (Nat.le_refl _) (HG3.out.alloc _).size rfl _ _ rfl rfl rfl (ln + 1) ((L ++ [(⟨hm, 77, 1⟩ : BkD)]).map BkD.cells) (by have := HLL.out; simp only [List.length_map]; omega) (by simp) ?_); intro a5 c5 w5b ho5 hg5 hb5 hp5; have HRS : RowKit.Hid (RowK w5b a5 (ln + 1) c5 (L ++ [⟨hm, 77, 1⟩])) := Lib.hid (ho5.row').2.1; have HG5 := Lib.hid ((HG3.out.alloc _).grown hg5 (fun k hk hlt => by have := (HO3.out.own.lt k hk).1; omega)); clear ho5 hg5 hb5 hp5)
                | (go_at_call 28; (with_reducible refine (rsort_any _ _ _ _ _ HRS.out).mono ?_); rintro e w6 ⟨a6, c6, rfl, ho6, t6⟩; have HO6 := Lib.hid ho6; have HT6 := Lib.hid (HG5.out.trans t6 (fun _ _ h => h)); have HS6 := Lib.hid HG5.out.size; have HS65 := Lib.hid t6.size; clear ho6 t6))
              obtain ⟨sx, hsx⟩ := set_home L (by have := HLL.out; have := HLB.out; omega) hm
              have HSX := Lib.hid hsx
              clear hsx s0 s1 s2 s3 s4 s5 s6 s7 s8 s9 s10 s11
              have s11 : w6.cell? ⟨SB, 11, none⟩ = some (.slice oa on oc) := cell_of_cells (HT6.out.keeps HSB.out (fun h => h)) 11
              go_wp2_with fail
              (with_reducible refine (gone23_any oa on oc w6).mono ?_)
              rintro e w7 ⟨rfl, hw7⟩
              have t7 : Touch w6 w7 (fun _ => False) := hw7 ▸ (Touch.refl w6 _).alloc _
              have hgc : w7.cell? ⟨w6.heap.size, 0, none⟩ = some (.slice oa on oc) := cell_of_cells (hw7 ▸ heap_alloc_new ..) 0
              have HGC := Lib.hid hgc
              have HTX := Lib.hid (HT6.out.trans t7 (fun _ _ h => h))
              have hrow6 := (HO6.out.toS.row').2.1
              have hlt6 := (HO6.out.toS.row').2.2
              obtain ⟨K', hps7, -, hk7⟩ := HPS.out.row HTX.out (a := a6) (n := (gsortF (L ++ [⟨hm, 77, 1⟩])).length) (fun x hx => .inr (Nat.lt_of_lt_of_le (hlt6 x hx).2 t7.size)) (fun x hx => .inr (.inr (Nat.le_trans HS6.out (hlt6 x hx).1)))
              have HST9 := Lib.hid (hps7.setS (by omega) a6 _ c6 _ (hrow6.still t7) hk7 ⟨sx, HSX.out⟩ HLA.out w6.heap.size oa on oc O HGC.out (HRO.out.still HTX.out))
              unfold goneV23 at HST9
              clear hw7 t7 hgc hrow6 hlt6 hps7 hk7 s11
              unfold goneV23
              go_wp2_with fail
              (with_reducible refine HST9.out.mono ?_)
              rintro e w8 ⟨⟨r8, rfl⟩, hps8, t8⟩
              have HPS := Lib.hid (hps8.less (K' := []) (fun _ h => by cases h))
              clear hps8 t8 HST9
              have HFD := Lib.hid HPS.out.find
              go_wp2_with fail
              (with_reducible refine HFD.out.mono ?_)
              rintro e w9 ⟨⟨u1, u2, u3, rfl⟩, t9⟩
              have HPS := Lib.hid (HPS.out.still t9)
              clear t9 HFD
              obtain ⟨wA, hwA⟩ : ∃ W, w9.alloc (.cells #[.int .i64 u1, .int .u32 u2, .int .i64 u3] 70) = W := ⟨_, rfl⟩
              have HPS := Lib.hid (HPS.out.still (show Touch w9 wA (fun _ => False) from hwA ▸ (Touch.refl w9 _).alloc _))
              have HWA := Lib.hid hwA
              clear hwA
              go_wp2_with fail
              rw [HWA.out]
              go_meet
              exact ⟨_, HPS.out⟩
            | false =>
              have HBY := Lib.hid (bytes_any d ttl fl st HST.out ba bn bc xs now la ln lc oa on oc W2 HRB.out (by have := HI3.out; omega) HI6.out.1 HI6.out.2)
              go_wp2_with fail
              (with_reducible refine HBY.out.mono ?_)
              rintro e w3 ⟨ya, yn, yc, ys, rfl, hry, hyn, hyw, t3⟩
              have HYR := Lib.hid hry
              have HYN := Lib.hid hyn
              obtain ⟨K3, hps3, -, hk3⟩ := HPS.out.row t3 (a := ya) (n := yn) (fun x hx => RowB.lt hry x hx) (fun x hx => by
                rcases hyw with ⟨rfl, rfl⟩ | h9
                · exact (HRBL.out x hx).imp (fun h => h) .inl
                · exact .inr (.inr (h9 x hx)))
              have HPS := Lib.hid hps3
              have HYK := Lib.hid hk3
              have HSB := Lib.hid (t3.keeps HSB.out (fun h => h))
              clear hry hyn hyw t3 hps3 hk3 HBY s0 s1 s2 s3 s4 s5 s6 s7 s8 s9 s10 s11 HRL HRO HRB HRBL
              have HKB := Lib.hid (HPS.out.touch.keeps HKB5.out (fun h => h))
              obtain ⟨q0, q1, q2, q3, q4⟩ : w3.cell? ⟨KB, 0, none⟩ = some (.int .u32 t.src) ∧ w3.cell? ⟨KB, 1, none⟩ = some (.int .u32 t.dst) ∧ w3.cell? ⟨KB, 2, none⟩ = some (.int .i64 t.proto) ∧ w3.cell? ⟨KB, 3, none⟩ = some (.int .i64 t.sport) ∧ w3.cell? ⟨KB, 4, none⟩ = some (.int .i64 t.dport) := ⟨cell_of_cells HKB.out 0, cell_of_cells HKB.out 1, cell_of_cells HKB.out 2, cell_of_cells HKB.out 3, cell_of_cells HKB.out 4⟩
              obtain ⟨s0, s3, s4, s5, s6, s7⟩ : w3.cell? ⟨SB, 0, none⟩ = some (.int .i64 d) ∧ w3.cell? ⟨SB, 3, none⟩ = some (.int .u32 st.src) ∧ w3.cell? ⟨SB, 4, none⟩ = some (.int .u32 st.dst) ∧ w3.cell? ⟨SB, 5, none⟩ = some (.int .i64 st.proto) ∧ w3.cell? ⟨SB, 6, none⟩ = some (.int .i64 st.sport) ∧ w3.cell? ⟨SB, 7, none⟩ = some (.int .i64 st.dport) := ⟨cell_of_cells HSB.out 0, cell_of_cells HSB.out 3, cell_of_cells HSB.out 4, cell_of_cells HSB.out 5, cell_of_cells HSB.out 6, cell_of_cells HSB.out 7⟩
              obtain ⟨cnd, hcnd⟩ : ∃ c, (!decide (st = t) || decide (d = 1)) = c := ⟨_, rfl⟩
              have HCND := Lib.hid hcnd
              clear hcnd
              go_upto_region 23 with (fail)
              go_cut [114] (fun s wx => s = .bool cnd ∧ w3 = wx)
              case first =>
                as_aux_lemma =>
                  rcases tup6 st t with rfl | ⟨hne, hc⟩
                  · by_cases hd1 : d = 1
                    · subst hd1
                      go_wp2_with fail
                      go_meet
                      exact ⟨by rw [← HCND.out]; simp, rfl⟩
                    · have hd1b : (d == (1 : Int)) = false := beq_eq_false_iff_ne.2 hd1
                      go_wp2_with fail
                      go_meet
                      exact ⟨by rw [← HCND.out]; simp [hd1], rfl⟩
                  · have HNE : RowKit.Hid (cnd = true) := Lib.hid (by rw [← HCND.out]; simp [hne])
                    clear hne
                    rcases hc with e1 | ⟨-, e1⟩ | ⟨-, -, e1⟩ | ⟨-, -, -, e1⟩ | ⟨-, -, -, -, e1⟩
                    all_goals
                      go_wp2_with fail
                      go_meet
                      exact ⟨by rw [HNE.out], rfl⟩
              case rest =>
                obtain ⟨rfl, rfl⟩ := hcut
                clear q0 q1 q2 q3 q4 s0 s3 s4 s5 s6 s7 HSB HKB HCND
                cases cnd with
                | false =>
                  have HPS := Lib.hid ((HPS.out.less (K' := []) (fun _ h => by cases h)).mono (Nat.le_succ _))
                  go_wp2_with fail
                  go_meet
                  exact ⟨_, HPS.out⟩
                | true =>
                  have HAL := Lib.hid HPS.out.all
                  go_wp2_with fail
                  (with_reducible refine HAL.out.mono ?_)
                  rintro e w4 ⟨wa, wcc, WL, rfl, hp4, hs4, hl4, ho4, t4⟩
                  have HYR := Lib.hid (HYR.out.stillP t4)
                  have hr4 := (ho4.row').2.1
                  have hlt4 := (ho4.row').2.2
                  obtain ⟨K4, hps4, hk4, hw4⟩ := HPS.out.row t4 (a := wa) (n := WL.length) (fun x hx => .inr (hlt4 x hx).2) (fun x hx => .inr (.inr (hlt4 x hx).1))
                  have HPS := Lib.hid hps4
                  have HYK : RowKit.Hid (∀ x, ya = some x → yn = 0 ∨ x.block ∈ K4) := Lib.hid (fun x hx => (HYK.out x hx).imp (fun h => h) (hk4 _))
                  have HWL := Lib.hid (And.intro hp4 (And.intro hs4 hl4))
                  have HWR := Lib.hid hr4
                  have HWK4 := Lib.hid hw4
                  clear hp4 hs4 hl4 ho4 t4 hr4 hlt4 hps4 hk4 hw4 HAL
                  go_wp2_with fail
                  (with_reducible refine (HCFG.out _).mono ?_)
                  rintro e wq ⟨rfl, tq⟩
                  have HYR := Lib.hid (HYR.out.stillP tq)
                  have HWR := Lib.hid (HWR.out.still tq)
                  have HPS := Lib.hid (HPS.out.still tq)
                  have hpk := HPS.out.pkU ys ya yn yc HYR.out
                  simp only [cfg23, cfgC, planV] at hpk
                  have HPU := Lib.hid hpk
                  clear tq hpk
                  go_wp2_with fail
                  (with_reducible refine HPU.out.mono ?_)
                  rintro e w6 ⟨v, r, bb, pa, pn, pc, qa, qn, qc, M6, rfl, hv6, hps6, t6⟩
                  have HYR := Lib.hid (HYR.out.touch t6 (fun x hx => (HYK.out x hx).imp (fun h => h) (fun h1 e => e.2 h1)))
                  have HWR := Lib.hid (HWR.out.touch t6 (fun x hx => (HWK4.out x hx).imp (fun h => h) (fun h1 e => e.2 h1)))
                  have HV := Lib.hid hv6
                  have HPS := Lib.hid (hps6.less (K' := []) (fun _ h => by cases h))
                  clear hv6 hps6 t6 HPU HYK HWK4
                  obtain ⟨w7, hw7⟩ : ∃ W, w6.alloc (.cells #[.int .i64 v, .int .i64 r, .int .i64 bb, .slice pa pn pc, .slice qa qn qc] 53) = W := ⟨_, rfl⟩
                  obtain ⟨PB, hPB⟩ : ∃ B, w6.heap.size = B := ⟨_, rfl⟩
                  have g7 : w7.heap[PB]? = some (.cells #[.int .i64 v, .int .i64 r, .int .i64 bb, .slice pa pn pc, .slice qa qn qc] 53 (0, 0)) := hPB ▸ hw7 ▸ heap_alloc_new ..
                  have t7 : Touch w6 w7 (fun _ => False) := hw7 ▸ (Touch.refl w6 _).alloc _
                  have HYR := Lib.hid (HYR.out.stillP t7)
                  have HWR := Lib.hid (HWR.out.still t7)
                  have HPS := Lib.hid (HPS.out.still t7)
                  have HPL := Lib.hid g7
                  have HW7 := Lib.hid (And.intro hw7 hPB)
                  clear g7 t7 hw7 hPB
                  go_upto_region 26 with (fail)
                  rw [HW7.out.1, HW7.out.2]
                  have HTU := Lib.hid (rtup_is ya yn yc ys w7 HYR.out HYN.out)
                  generalize tupT (tellT ys) = u at HTU HV HPS
                  simp only [tcs, hcs] at HTU
                  go_cut [18] (fun s wx => ∃ UB, s = .pointer (some ⟨UB, 0, none⟩) ∧ wx.heap[UB]? = some (.cells (tcs u) 37 (0, 0)) ∧ Touch w7 wx (fun _ => False))
                  case first =>
                    as_aux_lemma =>
                      go_wp2_with fail
                      (with_reducible refine HTU.out.mono ?_)
                      rintro e w8 ⟨⟨hd, hy, rfl⟩, t8⟩
                      have HT8 := Lib.hid t8
                      clear t8
                      go_wp2_with fail
                      go_meet
                      refine ⟨_, rfl, ?_, ?_⟩
                      · exact ((Touch.refl _ (fun _ => False)).alloc _).keeps (heap_alloc_new w8 _) (fun h => h)
                      · exact HT8.out.trans (((Touch.refl w8 (fun _ => False)).alloc _).alloc _) (fun _ _ h => h)
                  case rest =>
                    obtain ⟨UB, rfl, hub, tub⟩ := hcut
                    obtain ⟨wu, hwu⟩ : ∃ W, wc = W := ⟨_, rfl⟩
                    rw [hwu] at hub tub ⊢
                    clear hwu
                    have HPS := Lib.hid (HPS.out.still tub)
                    have HWR := Lib.hid (HWR.out.still tub)
                    have HPL := Lib.hid (tub.keeps HPL.out (fun h => h))
                    have HKB := Lib.hid (HPS.out.touch.keeps HKB5.out (fun h => h))
                    obtain ⟨q0, q1, q2, q3, q4⟩ : wu.cell? ⟨KB, 0, none⟩ = some (.int .u32 t.src) ∧ wu.cell? ⟨KB, 1, none⟩ = some (.int .u32 t.dst) ∧ wu.cell? ⟨KB, 2, none⟩ = some (.int .i64 t.proto) ∧ wu.cell? ⟨KB, 3, none⟩ = some (.int .i64 t.sport) ∧ wu.cell? ⟨KB, 4, none⟩ = some (.int .i64 t.dport) := ⟨cell_of_cells HKB.out 0, cell_of_cells HKB.out 1, cell_of_cells HKB.out 2, cell_of_cells HKB.out 3, cell_of_cells HKB.out 4⟩
                    obtain ⟨s0, s1, s2, s3, s4⟩ : wu.cell? ⟨UB, 0, none⟩ = some (.int .u32 u.src) ∧ wu.cell? ⟨UB, 1, none⟩ = some (.int .u32 u.dst) ∧ wu.cell? ⟨UB, 2, none⟩ = some (.int .i64 u.proto) ∧ wu.cell? ⟨UB, 3, none⟩ = some (.int .i64 u.sport) ∧ wu.cell? ⟨UB, 4, none⟩ = some (.int .i64 u.dport) := ⟨cell_of_cells hub 0, cell_of_cells hub 1, cell_of_cells hub 2, cell_of_cells hub 3, cell_of_cells hub 4⟩
                    clear hub tub HKB HTU HYR
                    rcases tup6 u t with rfl | ⟨hne, hc⟩
                    · have HTX := Lib.hid (HT5.out.trans HPS.out.touch (fun _ _ h => h))
                      go_wp2_with fail
                      refine (awake23 wu).mono ?_
                      rintro e w9 ⟨rfl, t9⟩
                      have HT9 := Lib.hid (HTX.out.trans t9 (fun _ _ h => h))
                      clear t9
                      go_wp2_with fail
                      go_ret
                      exact ⟨rfl, HT9.out⟩
                    · have HNE := Lib.hid hne
                      clear hne
                      go_upto_region 27 with (fail)
                      go_cut [130] (fun s wx => s = .bool false ∧ wu = wx)
                      case first =>
                        as_aux_lemma =>
                          rcases hc with e1 | ⟨-, e1⟩ | ⟨-, -, e1⟩ | ⟨-, -, -, e1⟩ | ⟨-, -, -, -, e1⟩
                          all_goals
                            go_wp2_with fail
                            go_meet
                            exact ⟨rfl, rfl⟩
                      case rest =>
                        obtain ⟨rfl, rfl⟩ := hcut
                        clear hc q0 q1 q2 q3 q4 s0 s1 s2 s3 s4
                        obtain ⟨hv, hv1⟩ := HV.out HNE.out
                        have HPS : RowKit.Hid (PS w5 wu g C (k + 2) M6 [] (ZH t hm)) := Lib.hid ((HPS.out.weak (fun _ _ _ h => h HNE.out)).mono (Nat.le_succ _))
                        have HV1 := Lib.hid hv1
                        clear hv1 HV HNE
                        go_upto_region 29 with (fail)
                        go_cut [161] (fun s wx => s = .bool false ∧ Touch wu wx (fun _ => False))
                        case first =>
                          as_aux_lemma =>
                            rcases hv with rfl | rfl
                            · obtain ⟨pm, rfl, rfl, hr0⟩ := HV1.out rfl
                              have hr1 : (r == (0 : Int)) = false := beq_eq_false_iff_ne.2 (by omega)
                              have y0 : wu.cell? ⟨PB, 0, none⟩ = some (.int .i64 1) := cell_of_cells HPL.out 0
                              have HAL := Lib.hid HPS.out.all
                              go_wp2_with fail
                              (with_reducible refine HAL.out.mono ?_)
                              rintro e wv ⟨va, vc, VL, rfl, hp5, hs5, hl5, ho5, t5⟩
                              have he : VL = WL := strict_ext (hp5.trans (pm.trans HWL.out.1.symm)) hs5 HWL.out.2.1
                              subst he
                              have HSM := Lib.hid (samefl_any wv va wa VL.length vc wcc VL (ho5.row').2.1 (HWR.out.still t5) (by omega))
                              have HPL := Lib.hid (t5.keeps HPL.out (fun h => h))
                              have HT5b := Lib.hid t5
                              clear hp5 hs5 hl5 ho5 t5 y0 HAL
                              go_wp2_with fail
                              (with_reducible refine HSM.out.mono ?_)
                              rintro e wy ⟨rfl, t6⟩
                              have HT6b := Lib.hid (HT5b.out.trans t6 (fun _ _ h => h))
                              have HPL := Lib.hid (t6.keeps HPL.out (fun h => h))
                              clear t6 HSM
                              have y1 : wy.cell? ⟨PB, 1, none⟩ = some (.int .i64 r) := cell_of_cells HPL.out 1
                              have y3 : wy.cell? ⟨PB, 3, none⟩ = some (.slice pa 0 pc) := cell_of_cells HPL.out 3
                              have y4 : wy.cell? ⟨PB, 4, none⟩ = some (.slice qa 0 qc) := cell_of_cells HPL.out 4
                              go_wp2_with fail
                              go_meet
                              exact ⟨rfl, HT6b.out⟩
                            · have y0 : wu.cell? ⟨PB, 0, none⟩ = some (.int .i64 2) := cell_of_cells HPL.out 0
                              go_wp2_with fail
                              go_meet
                              exact ⟨rfl, Touch.refl _ _⟩
                        case rest =>
                          obtain ⟨rfl, tx⟩ := hcut
                          obtain ⟨wE, hwE⟩ : ∃ W, wc = W := ⟨_, rfl⟩
                          rw [hwE] at tx ⊢
                          have HPS := Lib.hid (HPS.out.still tx)
                          clear tx hwE HWR HPL HWL HV1 hv
                          go_wp2_with fail
                          go_meet
                          exact ⟨_, HPS.out⟩
          case rest =>
            obtain ⟨M3, hP3⟩ := hcut
            obtain ⟨wE, hwE⟩ : ∃ W, wc = W := ⟨_, rfl⟩
            rw [hwE] at hP3 ⊢
            have HPS := Lib.hid hP3
            clear hP3 hwE
            have HKB := Lib.hid (HPS.out.touch.keeps HKB5.out (fun h => h))
            go_upto_region 31 with (fail)
            go_cut [21] (fun s21 wx => ∃ AC pa pn pc qa qc M1, s21 = .pointer (some ⟨AC, 0, none⟩) ∧ wx.heap[AC]? = some (.cells (planV 2 0 hm (.slice pa pn pc) (.slice qa 0 qc)) 53 (0, 0)) ∧ PS w5 wx g C (k + 2) M1 [AC] (ZH t hm))
            case first =>
              as_aux_lemma =>
                have HPS := Lib.hid (HPS.out.still (Touch.refl wE (fun _ => False)).drew)
                have HKB : RowKit.Hid (wE.drew.heap[KB]? = some (.cells (tcs t) 37 (0, 0))) := Lib.hid HKB.out
                have HPKT := Lib.hid (fun W K ma mc p r => HPKK.out W K (k + 2) M3 hm ma mc p r)
                go_wp2_with fail
                have hS := HKB.out
                refine wp_region_tree (fun w' => w'.heap[KB]? = some (.cells (tcs t) 37 (0, 0))) (.take 1 (.take 2 (.take 3 (.two 0 6 (.two 4 6 (.two 5 6 (.one 6 (.one 7 .fin)) (.one 5 (.one 7 .fin))) (.one 4 (.one 5 (.one 7 .fin)))) (.one 0 (.one 4 (.one 5 (.one 7 .fin)))))))) (by kernel_rfl) (by kernel_rfl) (by kernel_rfl) (by kernel_rfl) hS ?_
                refine walkT_take ?_
                (refine takeN_take (v := ?_) (some 163) rfl rfl (fun _ _ _ h => h) (by rfl) ?_ ?_; rotate_left; (focus (intro w' hw'; go_simp; (try with_reducible rfl))); (try simp only [Act.put, List.setIfInBounds_toArray, List.set_cons_zero, List.set_cons_succ]))
                refine walkT_take ?_
                (refine takeN_take (v := ?_) (some 164) rfl rfl (fun _ _ _ h => h) (by rfl) ?_ ?_; rotate_left; (focus (intro w' hw'; go_simp; (try with_reducible rfl))); (try simp only [Act.put, List.setIfInBounds_toArray, List.set_cons_zero, List.set_cons_succ]))
                refine walkT_take ?_
                (refine takeN_row (some 165) rfl rfl 37 (.tmp 2) rfl (KB) rfl _ _ _ _ (fun w' h => h) Tryz.underlying37 rfl infoT (fun _ _ _ h => h) (by rfl) ?_; (try simp only [Act.put, List.setIfInBounds_toArray, List.set_cons_zero, List.set_cons_succ]))
                refine walkT_two ?_ ?_
                · (refine runN_call 162 9 _ _ _ (HCFG.out _) rfl rfl rfl (by rfl) rfl (enter_config _ _) ?_; rintro e wa ⟨rfl, ta⟩; (try have HAC := Lib.hid (ta.keeps HAC.out (fun h => h))); (try have HROW := Lib.hid (HROW.out.touch ta (fun _ _ => .inr (fun h => h)))); have HKB := Lib.hid (ta.keeps HKB.out (fun h => h)); have HPS := Lib.hid (HPS.out.still ta); refine ⟨_, rfl, HKB.out, fun hS => ?_⟩; clear ta; (try simp only [Act.put, List.setIfInBounds_toArray, List.set_cons_zero, List.set_cons_succ]))
                  refine walkT_two ?_ ?_
                  · (refine runN_call 166 27 _ _ _ (HMK.out _) rfl rfl rfl (by rfl) rfl (enter_made _ _ _ _ _) ?_; rintro e wb ⟨ma, mc, rfl, hfb⟩; have tb := hfb.2; (try have HAC := Lib.hid (tb.keeps HAC.out (fun h => h))); (try have HROW := Lib.hid (HROW.out.touch tb (fun _ _ => .inr (fun h => h)))); have HKB := Lib.hid (tb.keeps HKB.out (fun h => h)); have HPS := Lib.hid (HPS.out.still tb); have HROW := Lib.hid hfb.row'.2; refine ⟨_, rfl, HKB.out, fun hS => ?_⟩; clear tb hfb; (try simp only [Act.put, List.setIfInBounds_toArray, List.set_cons_zero, List.set_cons_succ]))
                    refine walkT_two ?_ ?_
                    · (refine runN_call 167 18 _ _ _ (HPKT.out _ _ _ _ HPS.out HROW.out) rfl rfl rfl (by rfl) rfl (enter_packet _ _ _ _ _ _ _) ?_; rintro e wc ⟨pa, pn, pc, qa, qc, M1, rfl, hps, tc⟩; (try have HAC := Lib.hid (TK.cells tc List.mem_cons_self HAC.out)); have HKB := Lib.hid (tc.keeps HKB.out (fun e => by have h1 := e.1; have h2 := HKL.out; omega)); have HPS := Lib.hid hps; refine ⟨_, rfl, HKB.out, fun hS => ?_⟩; clear hps tc; (try simp only [Act.put, List.setIfInBounds_toArray, List.set_cons_zero, List.set_cons_succ]))
                      refine walkT_one ?_
                      (have HAL := Lib.hid HPS.out.touch.size; have HKA := Lib.hid (Nat.ne_of_lt (heap_lt HKB.out)); refine runN_new 21 (fun W => .pointer (some ⟨W.heap.size, 0, none⟩)) (planV 0 0 0 (.slice none 0 0) (.slice none 0 0)) 53 rfl rfl (by rfl) (by intro W; go_simp <;> first | with_reducible rfl | rfl | exact ⟨rfl, rfl⟩) ?_; intro w7 hw7 hM7 hs7 t7; (try have HAC := Lib.hid (t7.keeps HAC.out (fun h => h))); (try have HROW := Lib.hid (HROW.out.touch t7 (fun _ _ => .inr (fun h => h)))); have HKB := Lib.hid (t7.keeps HKB.out (fun h => h)); have HPS := Lib.hid (HPS.out.add t7 _ (Nat.le_refl _) (heap_lt hM7)); have HAC := Lib.hid hM7; refine ⟨HKB.out, fun _ => ?_⟩; clear hw7 hs7 hM7 t7; (try simp only [Act.put, List.setIfInBounds_toArray, List.set_cons_zero, List.set_cons_succ]))
                      refine walkT_one ?_
                      (refine runN_store rfl rfl (by rfl) 53 _ _ rfl _ (planV 2 0 hm (.slice pa pn pc) (.slice qa 0 qc)) rfl rfl _ _ HAC.out infoPlan rfl rfl ?_; intro w8 hM8 t8; have HAC := Lib.hid hM8; have HKB := Lib.hid (t8.keeps HKB.out HKA.out); have HPS := Lib.hid (HPS.out.set _ List.mem_cons_self HAL.out t8); refine ⟨HKB.out, fun hS => ?_⟩; clear hM8 t8; (try simp only [Act.put, List.setIfInBounds_toArray, List.set_cons_zero, List.set_cons_succ]))
                      refine walkT_fin ?_
                      go_wp2_with fail
                      go_meet
                      exact ⟨_, _, _, _, _, _, _, rfl, HAC.out, HPS.out⟩
                    · (have HAL := Lib.hid HPS.out.touch.size; have HKA := Lib.hid (Nat.ne_of_lt (heap_lt HKB.out)); refine runN_new 21 (fun W => .pointer (some ⟨W.heap.size, 0, none⟩)) (planV 0 0 0 (.slice none 0 0) (.slice none 0 0)) 53 rfl rfl (by rfl) (by intro W; go_simp <;> first | with_reducible rfl | rfl | exact ⟨rfl, rfl⟩) ?_; intro w7 hw7 hM7 hs7 t7; (try have HAC := Lib.hid (t7.keeps HAC.out (fun h => h))); (try have HROW := Lib.hid (HROW.out.touch t7 (fun _ _ => .inr (fun h => h)))); have HKB := Lib.hid (t7.keeps HKB.out (fun h => h)); have HPS := Lib.hid (HPS.out.add t7 _ (Nat.le_refl _) (heap_lt hM7)); have HAC := Lib.hid hM7; refine ⟨HKB.out, fun _ => ?_⟩; clear hw7 hs7 hM7 t7; (try simp only [Act.put, List.setIfInBounds_toArray, List.set_cons_zero, List.set_cons_succ]))
                      refine walkT_one ?_
                      (refine runN_call 167 18 _ _ _ (HPKT.out _ _ _ _ HPS.out HROW.out) rfl rfl rfl (by rfl) rfl (enter_packet _ _ _ _ _ _ _) ?_; rintro e wc ⟨pa, pn, pc, qa, qc, M1, rfl, hps, tc⟩; (try have HAC := Lib.hid (TK.cells tc List.mem_cons_self HAC.out)); have HKB := Lib.hid (tc.keeps HKB.out (fun e => by have h1 := e.1; have h2 := HKL.out; omega)); have HPS := Lib.hid hps; refine ⟨_, rfl, HKB.out, fun hS => ?_⟩; clear hps tc; (try simp only [Act.put, List.setIfInBounds_toArray, List.set_cons_zero, List.set_cons_succ]))
                      refine walkT_one ?_
                      (refine runN_store rfl rfl (by rfl) 53 _ _ rfl _ (planV 2 0 hm (.slice pa pn pc) (.slice qa 0 qc)) rfl rfl _ _ HAC.out infoPlan rfl rfl ?_; intro w8 hM8 t8; have HAC := Lib.hid hM8; have HKB := Lib.hid (t8.keeps HKB.out HKA.out); have HPS := Lib.hid (HPS.out.set _ List.mem_cons_self HAL.out t8); refine ⟨HKB.out, fun hS => ?_⟩; clear hM8 t8; (try simp only [Act.put, List.setIfInBounds_toArray, List.set_cons_zero, List.set_cons_succ]))
                      refine walkT_fin ?_
                      go_wp2_with fail
                      go_meet
                      exact ⟨_, _, _, _, _, _, _, rfl, HAC.out, HPS.out⟩
                  · (have HAL := Lib.hid HPS.out.touch.size; have HKA := Lib.hid (Nat.ne_of_lt (heap_lt HKB.out)); refine runN_new 21 (fun W => .pointer (some ⟨W.heap.size, 0, none⟩)) (planV 0 0 0 (.slice none 0 0) (.slice none 0 0)) 53 rfl rfl (by rfl) (by intro W; go_simp <;> first | with_reducible rfl | rfl | exact ⟨rfl, rfl⟩) ?_; intro w7 hw7 hM7 hs7 t7; (try have HAC := Lib.hid (t7.keeps HAC.out (fun h => h))); (try have HROW := Lib.hid (HROW.out.touch t7 (fun _ _ => .inr (fun h => h)))); have HKB := Lib.hid (t7.keeps HKB.out (fun h => h)); have HPS := Lib.hid (HPS.out.add t7 _ (Nat.le_refl _) (heap_lt hM7)); have HAC := Lib.hid hM7; refine ⟨HKB.out, fun _ => ?_⟩; clear hw7 hs7 hM7 t7; (try simp only [Act.put, List.setIfInBounds_toArray, List.set_cons_zero, List.set_cons_succ]))
                    refine walkT_one ?_
                    (refine runN_call 166 27 _ _ _ (HMK.out _) rfl rfl rfl (by rfl) rfl (enter_made _ _ _ _ _) ?_; rintro e wb ⟨ma, mc, rfl, hfb⟩; have tb := hfb.2; (try have HAC := Lib.hid (tb.keeps HAC.out (fun h => h))); (try have HROW := Lib.hid (HROW.out.touch tb (fun _ _ => .inr (fun h => h)))); have HKB := Lib.hid (tb.keeps HKB.out (fun h => h)); have HPS := Lib.hid (HPS.out.still tb); have HROW := Lib.hid hfb.row'.2; refine ⟨_, rfl, HKB.out, fun hS => ?_⟩; clear tb hfb; (try simp only [Act.put, List.setIfInBounds_toArray, List.set_cons_zero, List.set_cons_succ]))
                    refine walkT_one ?_
                    (refine runN_call 167 18 _ _ _ (HPKT.out _ _ _ _ HPS.out HROW.out) rfl rfl rfl (by rfl) rfl (enter_packet _ _ _ _ _ _ _) ?_; rintro e wc ⟨pa, pn, pc, qa, qc, M1, rfl, hps, tc⟩; (try have HAC := Lib.hid (TK.cells tc List.mem_cons_self HAC.out)); have HKB := Lib.hid (tc.keeps HKB.out (fun e => by have h1 := e.1; have h2 := HKL.out; omega)); have HPS := Lib.hid hps; refine ⟨_, rfl, HKB.out, fun hS => ?_⟩; clear hps tc; (try simp only [Act.put, List.setIfInBounds_toArray, List.set_cons_zero, List.set_cons_succ]))
                    refine walkT_one ?_
                    (refine runN_store rfl rfl (by rfl) 53 _ _ rfl _ (planV 2 0 hm (.slice pa pn pc) (.slice qa 0 qc)) rfl rfl _ _ HAC.out infoPlan rfl rfl ?_; intro w8 hM8 t8; have HAC := Lib.hid hM8; have HKB := Lib.hid (t8.keeps HKB.out HKA.out); have HPS := Lib.hid (HPS.out.set _ List.mem_cons_self HAL.out t8); refine ⟨HKB.out, fun hS => ?_⟩; clear hM8 t8; (try simp only [Act.put, List.setIfInBounds_toArray, List.set_cons_zero, List.set_cons_succ]))
                    refine walkT_fin ?_
                    go_wp2_with fail
                    go_meet
                    exact ⟨_, _, _, _, _, _, _, rfl, HAC.out, HPS.out⟩
                · (have HAL := Lib.hid HPS.out.touch.size; have HKA := Lib.hid (Nat.ne_of_lt (heap_lt HKB.out)); refine runN_new 21 (fun W => .pointer (some ⟨W.heap.size, 0, none⟩)) (planV 0 0 0 (.slice none 0 0) (.slice none 0 0)) 53 rfl rfl (by rfl) (by intro W; go_simp <;> first | with_reducible rfl | rfl | exact ⟨rfl, rfl⟩) ?_; intro w7 hw7 hM7 hs7 t7; (try have HAC := Lib.hid (t7.keeps HAC.out (fun h => h))); (try have HROW := Lib.hid (HROW.out.touch t7 (fun _ _ => .inr (fun h => h)))); have HKB := Lib.hid (t7.keeps HKB.out (fun h => h)); have HPS := Lib.hid (HPS.out.add t7 _ (Nat.le_refl _) (heap_lt hM7)); have HAC := Lib.hid hM7; refine ⟨HKB.out, fun _ => ?_⟩; clear hw7 hs7 hM7 t7; (try simp only [Act.put, List.setIfInBounds_toArray, List.set_cons_zero, List.set_cons_succ]))
                  refine walkT_one ?_
                  (refine runN_call 162 9 _ _ _ (HCFG.out _) rfl rfl rfl (by rfl) rfl (enter_config _ _) ?_; rintro e wa ⟨rfl, ta⟩; (try have HAC := Lib.hid (ta.keeps HAC.out (fun h => h))); (try have HROW := Lib.hid (HROW.out.touch ta (fun _ _ => .inr (fun h => h)))); have HKB := Lib.hid (ta.keeps HKB.out (fun h => h)); have HPS := Lib.hid (HPS.out.still ta); refine ⟨_, rfl, HKB.out, fun hS => ?_⟩; clear ta; (try simp only [Act.put, List.setIfInBounds_toArray, List.set_cons_zero, List.set_cons_succ]))
                  refine walkT_one ?_
                  (refine runN_call 166 27 _ _ _ (HMK.out _) rfl rfl rfl (by rfl) rfl (enter_made _ _ _ _ _) ?_; rintro e wb ⟨ma, mc, rfl, hfb⟩; have tb := hfb.2; (try have HAC := Lib.hid (tb.keeps HAC.out (fun h => h))); (try have HROW := Lib.hid (HROW.out.touch tb (fun _ _ => .inr (fun h => h)))); have HKB := Lib.hid (tb.keeps HKB.out (fun h => h)); have HPS := Lib.hid (HPS.out.still tb); have HROW := Lib.hid hfb.row'.2; refine ⟨_, rfl, HKB.out, fun hS => ?_⟩; clear tb hfb; (try simp only [Act.put, List.setIfInBounds_toArray, List.set_cons_zero, List.set_cons_succ]))
                  refine walkT_one ?_
                  (refine runN_call 167 18 _ _ _ (HPKT.out _ _ _ _ HPS.out HROW.out) rfl rfl rfl (by rfl) rfl (enter_packet _ _ _ _ _ _ _) ?_; rintro e wc ⟨pa, pn, pc, qa, qc, M1, rfl, hps, tc⟩; (try have HAC := Lib.hid (TK.cells tc List.mem_cons_self HAC.out)); have HKB := Lib.hid (tc.keeps HKB.out (fun e => by have h1 := e.1; have h2 := HKL.out; omega)); have HPS := Lib.hid hps; refine ⟨_, rfl, HKB.out, fun hS => ?_⟩; clear hps tc; (try simp only [Act.put, List.setIfInBounds_toArray, List.set_cons_zero, List.set_cons_succ]))
                  refine walkT_one ?_
                  (refine runN_store rfl rfl (by rfl) 53 _ _ rfl _ (planV 2 0 hm (.slice pa pn pc) (.slice qa 0 qc)) rfl rfl _ _ HAC.out infoPlan rfl rfl ?_; intro w8 hM8 t8; have HAC := Lib.hid hM8; have HKB := Lib.hid (t8.keeps HKB.out HKA.out); have HPS := Lib.hid (HPS.out.set _ List.mem_cons_self HAL.out t8); refine ⟨HKB.out, fun hS => ?_⟩; clear hM8 t8; (try simp only [Act.put, List.setIfInBounds_toArray, List.set_cons_zero, List.set_cons_succ]))
                  refine walkT_fin ?_
                  go_wp2_with fail
                  go_meet
                  exact ⟨_, _, _, _, _, _, _, rfl, HAC.out, HPS.out⟩
            case rest =>
              obtain ⟨AC, pa, pn, pc, qa, qc, M1, rfl, hA, hP⟩ := hcut
              have y0 : wc.cell? ⟨AC, 0, none⟩ = some (.int .i64 2) := cell_of_cells hA 0
              have y2 : wc.cell? ⟨AC, 2, none⟩ = some (.int .i64 hm) := cell_of_cells hA 2
              have y4 : wc.cell? ⟨AC, 4, none⟩ = some (.slice qa 0 qc) := cell_of_cells hA 4
              have HPS := Lib.hid (hP.less (K' := []) (fun _ h => by cases h))
              clear hA hP
              go_wp2_with fail
              try rw [HWK.out]
              go_roundw
              · exact HX.out _ _ HPS.out
              · simp only [RowKit.intOf]; omega
open Go.ChangeShapes Go.WideShapes Go.ChangeAt in
set_option maxRecDepth 20000 in
theorem pathStays_holds : Rows.PathStaysSaid := by
  refine pathStays.said fun H enc W base v0 v1 d0 d1 p0 p1 h0 h1 => ?_
  obtain ⟨t, rfl, ot⟩ := h0.tupD
  obtain ⟨a, cap, l, rfl, hr, hok⟩ := h1.callsP
  exact (stays23_walk t ot a l.length cap l W hr hok).mono fun e w' h => ⟨h.1, h.2.below (fun _ _ h => h.elim) (Nat.le_refl _)⟩
end Go.Proofs.YtpjdcgjoepjmcaaGreat
