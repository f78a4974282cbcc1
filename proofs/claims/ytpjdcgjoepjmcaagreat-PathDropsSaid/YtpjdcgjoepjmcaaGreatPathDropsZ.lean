/- PathDrops: under way. -/
import Derived.Test.YtpjdcgjoepjmcaaGreatPathDZ
import Derived.Test.YtpjdcgjoepjmcaaGreatCalm3Z
import Derived.Test.YtpjdcgjoepjmcaaGreatHAZ
import Derived.Test.YtpjdcgjoepjmcaaGreatFrPathDropsZ
import Derived.Test.YtpjdcgjoepjmcaaGreatGFZ
import Derived.Deep.DeepCutAuto
set_option linter.unusedVariables false
set_option linter.unusedSimpArgs false
namespace Go.Proofs.YtpjdcgjoepjmcaaGreat
open Go.RowKit

theorem mayB_k (k : TupD) : mayB (kOf k) = mayTB k := by
  rw [Bool.eq_iff_iff, may_iff, mayTB_iff]
  simp only [kOf]
  constructor
  · rintro ⟨a, b, c, d, e⟩; exact ⟨a, ⟨b, c⟩, d, e⟩
  · rintro ⟨a, ⟨b, c⟩, d, e⟩; exact ⟨a, b, c, d, e⟩
theorem mayT23 (k : TupD) (w : World) : Calls Tryz.prog 26 #[.agg (tcs k)] w fun e w' => e = .returned (.bool (mayTB k)) ∧ Touch w w' (fun _ => False) := by
  rw [← mayB_k]; exact may_any (kOf k) w
set_option maxRecDepth 20000 in
set_option maxHeartbeats 16000000 in
theorem drops23_walk (a : Option Addr) (len cap : Nat) (ks : List TupD) (y : Int) (w : World) (ht : RowT w a len cap ks) (hot : ∀ k ∈ ks, TupOk k) : Calls Tryz.prog 7 #[.slice a len cap, .int .i64 y] w fun e w' => e = .returned (.bool true) ∧ Touch w w' (fun _ => False) := by
  have HT := Lib.hid ht
  have HOT := Lib.hid hot
  have hl := ht.len
  have HL := Lib.hid hl
  have HCFG := Lib.hid (fun W => config_any (8 : Int) W)
  simp only [cfg23, cfgC] at HCFG
  clear ht hot hl
  go_enter Tryz.func7, Tryz.ntmps7
  obtain ⟨z, hz, hz1⟩ := modN y 400 (by decide) (by decide)
  obtain ⟨sz, hsz⟩ : ∃ sz : Nat, sz = 1453 + z := ⟨_, rfl⟩
  have hws : wrap64 (1453 + wrap64 ((IntKind.u64.wrap y).tmod 400)) = (sz : Int) := by rw [hz, hsz]; unfold wrap64; omega
  have HWS := Lib.hid hws
  have HSZ : RowKit.Hid (1453 ≤ sz ∧ sz ≤ 1852) := Lib.hid (by omega)
  clear hz hz1 hsz hws
  go_upto_region 2 with (fail)
  rw [HWS.out]
  go_wp2_with fail
  refine (fnew_any w 8 100).mono ?_
  rintro e w0 ⟨g, h, rfl, q0, t0, f0⟩
  have q0' : FS w0 g h 8 100 [] := q0
  have N0 := Lib.hid (FN.mk q0' t0 f0)
  clear q0 q0' t0 f0
  go_wp2_with fail
  refine (new_off 13 w0 prm13).mono ?_
  rintro e w1 ⟨C, G0, rfl, hc, hC, hG, hi, t1⟩
  have HPW0 : RowKit.Hid (PW w w1 g h 8 100 [] C 13 [] (tabF [] 13) none 0 0 G0 0) := Lib.hid (PW.fresh N0.out (by omega) t1 hc hC hG hi)
  have HCw : RowKit.Hid (w.heap.size ≤ C) := Lib.hid (Nat.le_trans N0.out.t.size hC)
  clear hi t1 hc hC hG N0
  go_wp2_with fail
  go_loopw [23] (fun s23 wr => ∃ (k : Nat) (h : FH), k ≤ len ∧ s23 = .int .i64 k ∧ PW w wr g h 8 100 [] C 13 [] (tabF [] 13) none 0 0 G0 0) (fun s23 _ => len - (RowKit.intOf s23).toNat)
  case atStart => exact ⟨0, h, Nat.zero_le _, rfl, HPW0.out⟩
  case round =>
    obtain ⟨k, h, hk, rfl, hq⟩ := hrel
    have HPW := Lib.hid hq
    clear hq HPW0
    by_cases hlt : k < len
    case pos =>
      have hlI : (k : Int) < len := by omega
      have hr := HT.out.touch HPW.out.f.t (fun _ _ => .inr (fun h => h))
      obtain ⟨b, off, rfl⟩ := RowS.some hr (by omega)
      have hk1 : k < ks.length := by rw [HL.out]; exact hlt
      obtain ⟨c0, c1, c2, c3, c4⟩ := hr.cells k hk1
      have hwk : wrap64 ((k : Int) + 1) = (k : Int) + 1 := by have h1 := hr.hcap; have h2 := hr.hmax; unfold wrap64; omega
      have HWK := Lib.hid hwk
      have HOK := Lib.hid (HOT.out _ (List.getElem_mem hk1))
      clear hr
      generalize ks[k] = t at *
      obtain ⟨W4, hW4⟩ : ∃ W, wr.alloc (.cells (tcs t) 37) = W := ⟨_, rfl⟩
      obtain ⟨KB, hKB⟩ : ∃ B, wr.heap.size = B := ⟨_, rfl⟩
      have g4 : W4.heap[KB]? = some (.cells (tcs t) 37 (0, 0)) := hKB ▸ hW4 ▸ heap_alloc_new ..
      have t4 : Touch wr W4 (fun _ => False) := hW4 ▸ (Touch.refl wr _).alloc _
      have hko := (HPW.out.new KB (by omega)).1
      have HPW := Lib.hid (HPW.out.still t4)
      have HKO := Lib.hid hko
      have HW4 := Lib.hid hW4
      have HKE := Lib.hid hKB
      have HKB := Lib.hid g4
      simp only [tcs] at HW4
      clear g4 t4 hW4 hKB hko
      have HX : RowKit.Hid (∀ wx h, PW w wx g h 8 100 [] C 13 [] (tabF [] 13) none 0 0 G0 0 → ∃ (k' : Nat) (h' : FH), k' ≤ len ∧ Value.int .i64 ((k : Int) + 1) = .int .i64 k' ∧ PW w wx g h' 8 100 [] C 13 [] (tabF [] 13) none 0 0 G0 0) := Lib.hid (fun wx h p => ⟨k + 1, h, by omega, by go_num, p⟩)
      go_upto_region 6 with (fail)
      rw [HW4.out, HKE.out]
      obtain ⟨q0, q1, q2, q3, q4⟩ : W4.cell? ⟨KB, 0, none⟩ = some (.int .u32 t.src) ∧ W4.cell? ⟨KB, 1, none⟩ = some (.int .u32 t.dst) ∧ W4.cell? ⟨KB, 2, none⟩ = some (.int .i64 t.proto) ∧ W4.cell? ⟨KB, 3, none⟩ = some (.int .i64 t.sport) ∧ W4.cell? ⟨KB, 4, none⟩ = some (.int .i64 t.dport) := ⟨cell_of_cells HKB.out 0, cell_of_cells HKB.out 1, cell_of_cells HKB.out 2, cell_of_cells HKB.out 3, cell_of_cells HKB.out 4⟩
      by_cases h20 : k < 20
      case neg =>
        have hge : (20 : Int) ≤ k := by omega
        have hge2 : ¬ (k : Int) < 20 := by omega
        go_wp2_with fail
        try rw [HWK.out]
        go_roundw
        · exact HX.out _ _ HPW.out
        · simp only [RowKit.intOf]; omega
      case pos =>
        have hge : ¬ (20 : Int) ≤ k := by omega
        have hge2 : (k : Int) < 20 := by omega
        have HMT := Lib.hid (mayT23 t W4)
        obtain ⟨mt, hmt⟩ : ∃ b, mayTB t = b := ⟨_, rfl⟩
        have hmt2 := HMT.out
        rw [hmt] at hmt2
        have HMT := Lib.hid hmt2
        simp only [tcs] at HMT
        have HME := Lib.hid hmt
        clear hmt hmt2
        cases mt with
        | false =>
          go_wp2_with fail
          (with_reducible refine HMT.out.mono ?_)
          rintro e w5 ⟨rfl, t5⟩
          have HPW := Lib.hid (HPW.out.still t5)
          clear t5
          go_wp2_with fail
          try rw [HWK.out]
          go_roundw
          · exact HX.out _ _ HPW.out
          · simp only [RowKit.intOf]; omega
        | true =>
          obtain ⟨n, hn⟩ : ∃ n, n = 20 + sizeK (kOf t) 0 := ⟨_, rfl⟩
          have HMK : RowKit.Hid (∀ W, Calls Tryz.prog 27 #[.agg (tcs t), .int .i64 9, .int .i64 0, .slice none 0 0] W fun e w' => ∃ a' cap', e = .returned (.slice a' n cap') ∧ FreshB W w' (.slice a' n cap') (madeF (kOf t) 9 0 [])) := Lib.hid (fun W => made_any (kOf t) (ok_k HOK.out) 9 0 none 0 0 [] W (RowB.nil _ _ _ (by omega)) (by omega) (by simp [isI64]) (by simp [isI64]) n hn)
          have HPKT : RowKit.Hid (∀ (W : World) (h1 : FH) (ma : Option Addr) (mc : Nat), PW w W g h1 8 100 [] C 13 [] (tabF [] 13) none 0 0 G0 0 → RowB W ma n mc (madeF (kOf t) 9 0 []) → _) := Lib.hid (fun W h1 ma mc p r => pktD W g h1 8 100 [] p.f.q C [] _ none 0 0 G0 0 p.c (fun b hb => by cases hb) 8 1 0 _ 10 (pk_nobody t HOK.out HME.out 9 0 [] (by simp) 168364297 1500 1 0 8 _ 13 ⟨by decide, by decide⟩) ma n mc r)
          generalize madeF (kOf t) 9 0 [] = xs at HMK HPKT
          simp only [cfg23, cfgC, tcs] at HMK HPKT
          go_wp2_with fail
          (with_reducible refine HMT.out.mono ?_)
          rintro e w5 ⟨rfl, t5⟩
          have HPW := Lib.hid (HPW.out.still t5)
          have HKB := Lib.hid (t5.keeps HKB.out (fun h => h))
          clear t5 hn q0 q1 q2 q3 q4 c0 c1 c2 c3 c4
          go_upto_region 7 with (fail)
          go_cut [9] (fun s9 wx => ∃ AC pa pn pc qa qc h', s9 = .pointer (some ⟨AC, 0, none⟩) ∧ wx.heap[AC]? = some (.cells (planV 1 10 0 (.slice pa pn pc) (.slice qa 0 qc)) 53 (0, 0)) ∧ PW w wx g h' 8 100 [] C 13 [] (tabF [] 13) none 0 0 G0 0)
          case first =>
            have HPW := Lib.hid (HPW.out.still (Touch.refl w5 (fun _ => False)).drew)
            have HKB : RowKit.Hid (w5.drew.heap[KB]? = some (.cells (tcs t) 37 (0, 0))) := Lib.hid HKB.out
            go_wp2_with fail
            have hS := HKB.out
            refine wp_region_tree (fun w' => w'.heap[KB]? = some (.cells (tcs t) 37 (0, 0))) (.take 1 (.take 2 (.take 3 (.two 0 6 (.two 4 6 (.two 5 6 (.one 6 (.one 7 .fin)) (.one 5 (.one 7 .fin))) (.one 4 (.one 5 (.one 7 .fin)))) (.one 0 (.one 4 (.one 5 (.one 7 .fin)))))))) (by kernel_rfl) (by kernel_rfl) (by kernel_rfl) (by kernel_rfl) hS ?_
            refine walkT_take ?_
            (refine takeN_take (v := ?_) (some 36) rfl rfl (fun _ _ _ h => h) (by rfl) ?_ ?_; rotate_left; (focus (intro w' hw'; go_simp; (try with_reducible rfl))); (try simp only [Act.put, List.setIfInBounds_toArray, List.set_cons_zero, List.set_cons_succ]))
            refine walkT_take ?_
            (refine takeN_take (v := ?_) (some 37) rfl rfl (fun _ _ _ h => h) (by rfl) ?_ ?_; rotate_left; (focus (intro w' hw'; go_simp; (try with_reducible rfl))); (try simp only [Act.put, List.setIfInBounds_toArray, List.set_cons_zero, List.set_cons_succ]))
            refine walkT_take ?_
            (refine takeN_row (some 38) rfl rfl 37 (.tmp 8) rfl (KB) rfl _ _ _ _ (fun w' h => h) Tryz.underlying37 rfl infoT (fun _ _ _ h => h) (by rfl) ?_; (try simp only [Act.put, List.setIfInBounds_toArray, List.set_cons_zero, List.set_cons_succ]))
            refine walkT_two ?_ ?_
            · (refine runN_call 35 9 _ _ _ (HCFG.out _) rfl rfl rfl (by rfl) rfl (enter_config _ _) ?_; rintro e wa ⟨rfl, ta⟩; (try have HAC := Lib.hid (ta.keeps HAC.out (fun h => h))); (try have HROW := Lib.hid (HROW.out.touch ta (fun _ _ => .inr (fun h => h)))); have HKB := Lib.hid (ta.keeps HKB.out (fun h => h)); have HPW := Lib.hid (HPW.out.still ta); refine ⟨_, rfl, HKB.out, fun hS => ?_⟩; clear ta; (try simp only [Act.put, List.setIfInBounds_toArray, List.set_cons_zero, List.set_cons_succ]))
              refine walkT_two ?_ ?_
              · (refine runN_call 39 27 _ _ _ (HMK.out _) rfl rfl rfl (by rfl) rfl (enter_made _ _ _ _ _) ?_; rintro e wb ⟨ma, mc, rfl, hfb⟩; have tb := hfb.2; (try have HAC := Lib.hid (tb.keeps HAC.out (fun h => h))); (try have HROW := Lib.hid (HROW.out.touch tb (fun _ _ => .inr (fun h => h)))); have HKB := Lib.hid (tb.keeps HKB.out (fun h => h)); have HPW := Lib.hid (HPW.out.still tb); have HROW := Lib.hid hfb.row'.2; refine ⟨_, rfl, HKB.out, fun hS => ?_⟩; clear tb hfb; (try simp only [Act.put, List.setIfInBounds_toArray, List.set_cons_zero, List.set_cons_succ]))
                refine walkT_two ?_ ?_
                · (refine runN_call 40 18 _ _ _ (HPKT.out _ _ _ _ HPW.out HROW.out) rfl rfl rfl (by rfl) rfl (enter_packet _ _ _ _ _ _ _) ?_; rintro e wc ⟨pa, pn, pc, qa, qc, rfl, hst⟩; obtain ⟨h', M1, hpm, hpw, hoff⟩ := HPW.out.step hst; (try have HAO := Lib.hid (hoff _ (heap_lt HAC.out) HAO.out)); (try have HAC := Lib.hid ((step_touch hst).keeps HAC.out HAP.out)); have HKB := Lib.hid ((step_touch hst).keeps HKB.out HKO.out); obtain rfl := List.perm_nil.1 hpm; have HPW := Lib.hid hpw; refine ⟨_, rfl, HKB.out, fun hS => ?_⟩; clear hst hpm hpw hoff; (try simp only [Act.put, List.setIfInBounds_toArray, List.set_cons_zero, List.set_cons_succ]))
                  refine walkT_one ?_
                  (have HAL := Lib.hid HPW.out.f.t.size; have HAO := Lib.hid (HPW.out.new _ (Nat.le_refl _)); have HAP := Lib.hid HAO.out.1; have HKA := Lib.hid (Nat.ne_of_lt (heap_lt HKB.out)); refine runN_new 9 (fun W => .pointer (some ⟨W.heap.size, 0, none⟩)) (planV 0 0 0 (.slice none 0 0) (.slice none 0 0)) 53 rfl rfl (by rfl) (by intro W; go_simp <;> first | with_reducible rfl | rfl | exact ⟨rfl, rfl⟩) ?_; intro w7 hw7 hM7 hs7 t7; (try have HAC := Lib.hid (t7.keeps HAC.out (fun h => h))); (try have HROW := Lib.hid (HROW.out.touch t7 (fun _ _ => .inr (fun h => h)))); have HKB := Lib.hid (t7.keeps HKB.out (fun h => h)); have HPW := Lib.hid (HPW.out.still t7); have HAC := Lib.hid hM7; refine ⟨HKB.out, fun _ => ?_⟩; clear hw7 hs7 hM7 t7; (try simp only [Act.put, List.setIfInBounds_toArray, List.set_cons_zero, List.set_cons_succ]))
                  refine walkT_one ?_
                  (refine runN_store rfl rfl (by rfl) 53 _ _ rfl _ (planV 1 10 0 (.slice pa pn pc) (.slice qa 0 qc)) rfl rfl _ _ HAC.out infoPlan rfl rfl ?_; intro w8 hM8 t8; have HAC := Lib.hid hM8; have HKB := Lib.hid (t8.keeps HKB.out HKA.out); have HPW := Lib.hid (HPW.out.set _ HAO.out HAL.out t8); refine ⟨HKB.out, fun hS => ?_⟩; clear hM8 t8; (try simp only [Act.put, List.setIfInBounds_toArray, List.set_cons_zero, List.set_cons_succ]))
                  refine walkT_fin ?_
                  go_wp2_with fail
                  go_meet
                  exact ⟨_, _, _, _, _, _, _, rfl, HAC.out, HPW.out⟩
                · (have HAL := Lib.hid HPW.out.f.t.size; have HAO := Lib.hid (HPW.out.new _ (Nat.le_refl _)); have HAP := Lib.hid HAO.out.1; have HKA := Lib.hid (Nat.ne_of_lt (heap_lt HKB.out)); refine runN_new 9 (fun W => .pointer (some ⟨W.heap.size, 0, none⟩)) (planV 0 0 0 (.slice none 0 0) (.slice none 0 0)) 53 rfl rfl (by rfl) (by intro W; go_simp <;> first | with_reducible rfl | rfl | exact ⟨rfl, rfl⟩) ?_; intro w7 hw7 hM7 hs7 t7; (try have HAC := Lib.hid (t7.keeps HAC.out (fun h => h))); (try have HROW := Lib.hid (HROW.out.touch t7 (fun _ _ => .inr (fun h => h)))); have HKB := Lib.hid (t7.keeps HKB.out (fun h => h)); have HPW := Lib.hid (HPW.out.still t7); have HAC := Lib.hid hM7; refine ⟨HKB.out, fun _ => ?_⟩; clear hw7 hs7 hM7 t7; (try simp only [Act.put, List.setIfInBounds_toArray, List.set_cons_zero, List.set_cons_succ]))
                  refine walkT_one ?_
                  (refine runN_call 40 18 _ _ _ (HPKT.out _ _ _ _ HPW.out HROW.out) rfl rfl rfl (by rfl) rfl (enter_packet _ _ _ _ _ _ _) ?_; rintro e wc ⟨pa, pn, pc, qa, qc, rfl, hst⟩; obtain ⟨h', M1, hpm, hpw, hoff⟩ := HPW.out.step hst; (try have HAO := Lib.hid (hoff _ (heap_lt HAC.out) HAO.out)); (try have HAC := Lib.hid ((step_touch hst).keeps HAC.out HAP.out)); have HKB := Lib.hid ((step_touch hst).keeps HKB.out HKO.out); obtain rfl := List.perm_nil.1 hpm; have HPW := Lib.hid hpw; refine ⟨_, rfl, HKB.out, fun hS => ?_⟩; clear hst hpm hpw hoff; (try simp only [Act.put, List.setIfInBounds_toArray, List.set_cons_zero, List.set_cons_succ]))
                  refine walkT_one ?_
                  (refine runN_store rfl rfl (by rfl) 53 _ _ rfl _ (planV 1 10 0 (.slice pa pn pc) (.slice qa 0 qc)) rfl rfl _ _ HAC.out infoPlan rfl rfl ?_; intro w8 hM8 t8; have HAC := Lib.hid hM8; have HKB := Lib.hid (t8.keeps HKB.out HKA.out); have HPW := Lib.hid (HPW.out.set _ HAO.out HAL.out t8); refine ⟨HKB.out, fun hS => ?_⟩; clear hM8 t8; (try simp only [Act.put, List.setIfInBounds_toArray, List.set_cons_zero, List.set_cons_succ]))
                  refine walkT_fin ?_
                  go_wp2_with fail
                  go_meet
                  exact ⟨_, _, _, _, _, _, _, rfl, HAC.out, HPW.out⟩
              · (have HAL := Lib.hid HPW.out.f.t.size; have HAO := Lib.hid (HPW.out.new _ (Nat.le_refl _)); have HAP := Lib.hid HAO.out.1; have HKA := Lib.hid (Nat.ne_of_lt (heap_lt HKB.out)); refine runN_new 9 (fun W => .pointer (some ⟨W.heap.size, 0, none⟩)) (planV 0 0 0 (.slice none 0 0) (.slice none 0 0)) 53 rfl rfl (by rfl) (by intro W; go_simp <;> first | with_reducible rfl | rfl | exact ⟨rfl, rfl⟩) ?_; intro w7 hw7 hM7 hs7 t7; (try have HAC := Lib.hid (t7.keeps HAC.out (fun h => h))); (try have HROW := Lib.hid (HROW.out.touch t7 (fun _ _ => .inr (fun h => h)))); have HKB := Lib.hid (t7.keeps HKB.out (fun h => h)); have HPW := Lib.hid (HPW.out.still t7); have HAC := Lib.hid hM7; refine ⟨HKB.out, fun _ => ?_⟩; clear hw7 hs7 hM7 t7; (try simp only [Act.put, List.setIfInBounds_toArray, List.set_cons_zero, List.set_cons_succ]))
                refine walkT_one ?_
                (refine runN_call 39 27 _ _ _ (HMK.out _) rfl rfl rfl (by rfl) rfl (enter_made _ _ _ _ _) ?_; rintro e wb ⟨ma, mc, rfl, hfb⟩; have tb := hfb.2; (try have HAC := Lib.hid (tb.keeps HAC.out (fun h => h))); (try have HROW := Lib.hid (HROW.out.touch tb (fun _ _ => .inr (fun h => h)))); have HKB := Lib.hid (tb.keeps HKB.out (fun h => h)); have HPW := Lib.hid (HPW.out.still tb); have HROW := Lib.hid hfb.row'.2; refine ⟨_, rfl, HKB.out, fun hS => ?_⟩; clear tb hfb; (try simp only [Act.put, List.setIfInBounds_toArray, List.set_cons_zero, List.set_cons_succ]))
                refine walkT_one ?_
                (refine runN_call 40 18 _ _ _ (HPKT.out _ _ _ _ HPW.out HROW.out) rfl rfl rfl (by rfl) rfl (enter_packet _ _ _ _ _ _ _) ?_; rintro e wc ⟨pa, pn, pc, qa, qc, rfl, hst⟩; obtain ⟨h', M1, hpm, hpw, hoff⟩ := HPW.out.step hst; (try have HAO := Lib.hid (hoff _ (heap_lt HAC.out) HAO.out)); (try have HAC := Lib.hid ((step_touch hst).keeps HAC.out HAP.out)); have HKB := Lib.hid ((step_touch hst).keeps HKB.out HKO.out); obtain rfl := List.perm_nil.1 hpm; have HPW := Lib.hid hpw; refine ⟨_, rfl, HKB.out, fun hS => ?_⟩; clear hst hpm hpw hoff; (try simp only [Act.put, List.setIfInBounds_toArray, List.set_cons_zero, List.set_cons_succ]))
                refine walkT_one ?_
                (refine runN_store rfl rfl (by rfl) 53 _ _ rfl _ (planV 1 10 0 (.slice pa pn pc) (.slice qa 0 qc)) rfl rfl _ _ HAC.out infoPlan rfl rfl ?_; intro w8 hM8 t8; have HAC := Lib.hid hM8; have HKB := Lib.hid (t8.keeps HKB.out HKA.out); have HPW := Lib.hid (HPW.out.set _ HAO.out HAL.out t8); refine ⟨HKB.out, fun hS => ?_⟩; clear hM8 t8; (try simp only [Act.put, List.setIfInBounds_toArray, List.set_cons_zero, List.set_cons_succ]))
                refine walkT_fin ?_
                go_wp2_with fail
                go_meet
                exact ⟨_, _, _, _, _, _, _, rfl, HAC.out, HPW.out⟩
            · (have HAL := Lib.hid HPW.out.f.t.size; have HAO := Lib.hid (HPW.out.new _ (Nat.le_refl _)); have HAP := Lib.hid HAO.out.1; have HKA := Lib.hid (Nat.ne_of_lt (heap_lt HKB.out)); refine runN_new 9 (fun W => .pointer (some ⟨W.heap.size, 0, none⟩)) (planV 0 0 0 (.slice none 0 0) (.slice none 0 0)) 53 rfl rfl (by rfl) (by intro W; go_simp <;> first | with_reducible rfl | rfl | exact ⟨rfl, rfl⟩) ?_; intro w7 hw7 hM7 hs7 t7; (try have HAC := Lib.hid (t7.keeps HAC.out (fun h => h))); (try have HROW := Lib.hid (HROW.out.touch t7 (fun _ _ => .inr (fun h => h)))); have HKB := Lib.hid (t7.keeps HKB.out (fun h => h)); have HPW := Lib.hid (HPW.out.still t7); have HAC := Lib.hid hM7; refine ⟨HKB.out, fun _ => ?_⟩; clear hw7 hs7 hM7 t7; (try simp only [Act.put, List.setIfInBounds_toArray, List.set_cons_zero, List.set_cons_succ]))
              refine walkT_one ?_
              (refine runN_call 35 9 _ _ _ (HCFG.out _) rfl rfl rfl (by rfl) rfl (enter_config _ _) ?_; rintro e wa ⟨rfl, ta⟩; (try have HAC := Lib.hid (ta.keeps HAC.out (fun h => h))); (try have HROW := Lib.hid (HROW.out.touch ta (fun _ _ => .inr (fun h => h)))); have HKB := Lib.hid (ta.keeps HKB.out (fun h => h)); have HPW := Lib.hid (HPW.out.still ta); refine ⟨_, rfl, HKB.out, fun hS => ?_⟩; clear ta; (try simp only [Act.put, List.setIfInBounds_toArray, List.set_cons_zero, List.set_cons_succ]))
              refine walkT_one ?_
              (refine runN_call 39 27 _ _ _ (HMK.out _) rfl rfl rfl (by rfl) rfl (enter_made _ _ _ _ _) ?_; rintro e wb ⟨ma, mc, rfl, hfb⟩; have tb := hfb.2; (try have HAC := Lib.hid (tb.keeps HAC.out (fun h => h))); (try have HROW := Lib.hid (HROW.out.touch tb (fun _ _ => .inr (fun h => h)))); have HKB := Lib.hid (tb.keeps HKB.out (fun h => h)); have HPW := Lib.hid (HPW.out.still tb); have HROW := Lib.hid hfb.row'.2; refine ⟨_, rfl, HKB.out, fun hS => ?_⟩; clear tb hfb; (try simp only [Act.put, List.setIfInBounds_toArray, List.set_cons_zero, List.set_cons_succ]))
              refine walkT_one ?_
              (refine runN_call 40 18 _ _ _ (HPKT.out _ _ _ _ HPW.out HROW.out) rfl rfl rfl (by rfl) rfl (enter_packet _ _ _ _ _ _ _) ?_; rintro e wc ⟨pa, pn, pc, qa, qc, rfl, hst⟩; obtain ⟨h', M1, hpm, hpw, hoff⟩ := HPW.out.step hst; (try have HAO := Lib.hid (hoff _ (heap_lt HAC.out) HAO.out)); (try have HAC := Lib.hid ((step_touch hst).keeps HAC.out HAP.out)); have HKB := Lib.hid ((step_touch hst).keeps HKB.out HKO.out); obtain rfl := List.perm_nil.1 hpm; have HPW := Lib.hid hpw; refine ⟨_, rfl, HKB.out, fun hS => ?_⟩; clear hst hpm hpw hoff; (try simp only [Act.put, List.setIfInBounds_toArray, List.set_cons_zero, List.set_cons_succ]))
              refine walkT_one ?_
              (refine runN_store rfl rfl (by rfl) 53 _ _ rfl _ (planV 1 10 0 (.slice pa pn pc) (.slice qa 0 qc)) rfl rfl _ _ HAC.out infoPlan rfl rfl ?_; intro w8 hM8 t8; have HAC := Lib.hid hM8; have HKB := Lib.hid (t8.keeps HKB.out HKA.out); have HPW := Lib.hid (HPW.out.set _ HAO.out HAL.out t8); refine ⟨HKB.out, fun hS => ?_⟩; clear hM8 t8; (try simp only [Act.put, List.setIfInBounds_toArray, List.set_cons_zero, List.set_cons_succ]))
              refine walkT_fin ?_
              go_wp2_with fail
              go_meet
              exact ⟨_, _, _, _, _, _, _, rfl, HAC.out, HPW.out⟩
          case rest =>
            obtain ⟨AC, pa, pn, pc, qa, qc, h', rfl, hA, hP⟩ := hcut
            have y0 : wc.cell? ⟨AC, 0, none⟩ = some (.int .i64 1) := cell_of_cells hA 0
            have y1 : wc.cell? ⟨AC, 1, none⟩ = some (.int .i64 10) := cell_of_cells hA 1
            have y4 : wc.cell? ⟨AC, 4, none⟩ = some (.slice qa 0 qc) := cell_of_cells hA 4
            have HLN := Lib.hid (flen_any wc g h' 8 100 [] hP.f.q)
            have HP := Lib.hid hP
            clear hA hP
            go_wp2_with (go_at_call 32; (with_reducible refine HLN.out.mono ?_); rintro e w6 ⟨rfl, rfl⟩)
            try rw [HWK.out]
            go_roundw
            · exact HX.out _ _ HP.out
            · simp only [RowKit.intOf]; omega
    case neg =>
      obtain rfl : len = k := by omega
      have hlI : ¬ (len : Int) < len := by omega
      have hCl : C < wr.heap.size := HPW.out.l.1
      have HK : RowKit.Hid (RowK (wr.alloc (.cells #[.int .i64 1, .int .u32 1, .int .i64 1] 70)) (some ⟨wr.heap.size, 0, none⟩) 1 1 [bk1]) := Lib.hid
        ((OwnS.lit wr wr.heap.size (Nat.le_refl _) 70 3 1 ([bk1].map BkD.cells) _ rfl rfl (by simp [bk1, BkD.cells]) (by omega)).row').2.1
      go_wp2_with fail
      have t2 := (Touch.refl wr (fun _ => False)).alloc (.cells #[.int .i64 1, .int .u32 1, .int .i64 1] 70)
      have N2 := Lib.hid (HPW.out.still t2)
      refine (set_out 13 .nilFunc [bk1] C _ _ _ _ _ _ 0 _ 1 1 [bk1] _ prm13 (by omega) N2.out.c.hc HK.out gmay1 (fun x hx => .inr (fun h => by cases hx; simp at h; omega)) (fun W t => without_nil _ 1 1 [bk1] W (HK.out.touch t (fun _ _ => .inr (fun h => h))) (by omega))).mono ?_
      rintro e w3 ⟨rfl, a3, c3, G3, hc3, hk3, hi3, hb3, hG3, t3⟩
      have HPW : RowKit.Hid (PW w w3 g h 8 100 [] C 13 [bk1] (tabF [bk1] 13) a3 1 c3 G3 1) := Lib.hid (PW.made N2.out.f (by omega) N2.out.l.1 N2.out.o.1 HCw.out t3 hc3 hk3 hi3 hb3 hG3)
      obtain ⟨h0, hh0⟩ : ∃ h0, h0 = h := ⟨_, rfl⟩
      rw [← hh0] at HPW
      clear t2 t3 hc3 hk3 hi3 hb3 hG3 HK N2 hCl hh0 hlt
      go_wp2_with fail
      obtain ⟨Wo, hWo⟩ : ∃ Wo, Wo = wr := ⟨_, rfl⟩
      clear hWo
      go_loopw [70] (fun s70 wr => ∃ (k : Nat) (h : FH), k ≤ len ∧ s70 = .int .i64 k ∧ PW w wr g h 8 100 [] C 13 [bk1] (tabF [bk1] 13) a3 1 c3 G3 1) (fun s70 _ => len - (RowKit.intOf s70).toNat)
      case atStart => exact ⟨0, h0, Nat.zero_le _, rfl, HPW.out⟩
      case round =>
        obtain ⟨k, h, hk, rfl, hq⟩ := hrel
        have HPW := Lib.hid hq
        clear hq
        by_cases hlt : k < len
        case pos =>
          have hlI : (k : Int) < len := by omega
          have hr := HT.out.touch HPW.out.f.t (fun _ _ => .inr (fun h => h))
          obtain ⟨b, off, rfl⟩ := RowS.some hr (by omega)
          have hk1 : k < ks.length := by rw [HL.out]; exact hlt
          obtain ⟨c0, c1, c2, c3', c4⟩ := hr.cells k hk1
          have hwk : wrap64 ((k : Int) + 1) = (k : Int) + 1 := by have h1 := hr.hcap; have h2 := hr.hmax; unfold wrap64; omega
          have HWK := Lib.hid hwk
          have HOK := Lib.hid (HOT.out _ (List.getElem_mem hk1))
          clear hr
          generalize ks[k] = t at *
          obtain ⟨W4, hW4⟩ : ∃ W, wr.alloc (.cells (tcs t) 37) = W := ⟨_, rfl⟩
          obtain ⟨KB, hKB⟩ : ∃ B, wr.heap.size = B := ⟨_, rfl⟩
          have g4 : W4.heap[KB]? = some (.cells (tcs t) 37 (0, 0)) := hKB ▸ hW4 ▸ heap_alloc_new ..
          have t4 : Touch wr W4 (fun _ => False) := hW4 ▸ (Touch.refl wr _).alloc _
          have hko := HPW.out.new KB (by omega)
          have HPW := Lib.hid (HPW.out.still t4)
          have HKO := Lib.hid hko
          have HW4 := Lib.hid hW4
          have HKE := Lib.hid hKB
          have HKB := Lib.hid g4
          simp only [tcs] at HW4
          clear g4 t4 hW4 hKB hko
          have HX : RowKit.Hid (∀ wx h, PW w wx g h 8 100 [] C 13 [bk1] (tabF [bk1] 13) a3 1 c3 G3 1 → ∃ (k' : Nat) (h' : FH), k' ≤ len ∧ Value.int .i64 ((k : Int) + 1) = .int .i64 k' ∧ PW w wx g h' 8 100 [] C 13 [bk1] (tabF [bk1] 13) a3 1 c3 G3 1) := Lib.hid (fun wx h p => ⟨k + 1, h, by omega, by go_num, p⟩)
          go_upto_region 16 with (fail)
          rw [HW4.out, HKE.out]
          obtain ⟨q0, q1, q2, q3, q4⟩ : W4.cell? ⟨KB, 0, none⟩ = some (.int .u32 t.src) ∧ W4.cell? ⟨KB, 1, none⟩ = some (.int .u32 t.dst) ∧ W4.cell? ⟨KB, 2, none⟩ = some (.int .i64 t.proto) ∧ W4.cell? ⟨KB, 3, none⟩ = some (.int .i64 t.sport) ∧ W4.cell? ⟨KB, 4, none⟩ = some (.int .i64 t.dport) := ⟨cell_of_cells HKB.out 0, cell_of_cells HKB.out 1, cell_of_cells HKB.out 2, cell_of_cells HKB.out 3, cell_of_cells HKB.out 4⟩
          by_cases h20 : k < 20
          case neg =>
            have hge : (20 : Int) ≤ k := by omega
            have hge2 : ¬ (k : Int) < 20 := by omega
            go_wp2_with fail
            try rw [HWK.out]
            go_roundw
            · exact HX.out _ _ HPW.out
            · simp only [RowKit.intOf]; omega
          case pos =>
            have hge : ¬ (20 : Int) ≤ k := by omega
            have hge2 : (k : Int) < 20 := by omega
            have HMT := Lib.hid (mayT23 t W4)
            obtain ⟨mt, hmt⟩ : ∃ b, mayTB t = b := ⟨_, rfl⟩
            have hmt2 := HMT.out
            rw [hmt] at hmt2
            have HMT := Lib.hid hmt2
            simp only [tcs] at HMT
            have HME := Lib.hid hmt
            clear hmt hmt2
            cases mt with
            | false =>
              go_wp2_with fail
              (with_reducible refine HMT.out.mono ?_)
              rintro e w5 ⟨rfl, t5⟩
              have HPW := Lib.hid (HPW.out.still t5)
              clear t5
              go_wp2_with fail
              try rw [HWK.out]
              go_roundw
              · exact HX.out _ _ HPW.out
              · simp only [RowKit.intOf]; omega
            | true =>
              obtain ⟨n, hn⟩ : ∃ n, n = 20 + sizeK (kOf t) 0 := ⟨_, rfl⟩
              obtain ⟨n2, hn2⟩ : ∃ n, n = 20 + sizeK (kOf t) sz := ⟨_, rfl⟩
              have hsz := HSZ.out
              have HSZB : RowKit.Hid (sz ≤ 281474976710656) := Lib.hid (by omega)
              have HMB := Lib.hid (fun W => make_bytes W (sz : Int) sz rfl HSZB.out)
              have HMK : RowKit.Hid (∀ W, Calls Tryz.prog 27 #[.agg (tcs t), .int .i64 1, .int .i64 0, .slice none 0 0] W fun e w' => ∃ a' cap', e = .returned (.slice a' n cap') ∧ FreshB W w' (.slice a' n cap') (madeF (kOf t) 1 0 [])) := Lib.hid (fun W => made_any (kOf t) (ok_k HOK.out) 1 0 none 0 0 [] W (RowB.nil _ _ _ (by omega)) (by omega) (by simp [isI64]) (by simp [isI64]) n hn)
              have HMK2 : RowKit.Hid (∀ W zb, RowB W (some ⟨zb, 0, none⟩) sz sz (zL sz) → Calls Tryz.prog 27 #[.agg (tcs t), .int .i64 9, .int .i64 0, .slice (some ⟨zb, 0, none⟩) sz sz] W fun e w' => ∃ a' cap', e = .returned (.slice a' n2 cap') ∧ FreshB W w' (.slice a' n2 cap') (madeF (kOf t) 9 0 (zL sz))) := Lib.hid (fun W zb r => made_any (kOf t) (ok_k HOK.out) 9 0 _ sz sz (zL sz) W r (by omega) (by simp [isI64]) (by simp [isI64]) n2 hn2)
              have hR1 : pkF 168364297 1500 1 0 8 [bk1] (tabF [bk1] 13) 13 [] (madeF (kOf t) 1 0 []) = ⟨1, 7, 0, [], [], []⟩ := pk_refused t HOK.out HME.out 1 0 [] (by simp) 168364297 1500 1 0 8 [bk1] _ 13 [] ⟨by decide, by decide⟩ bk1 (back_one prm13 bk1 gmay1 [] t HME.out) 7 (why_ttl t HOK.out 0 [] (by simp) (fun x hx => by cases hx) 1500) (by decide)
              have hR2 : pkF 168364297 1500 1 0 8 [bk1] (tabF [bk1] 13) 13 [] (madeF (kOf t) 9 0 (zL sz)) = ⟨1, 11, 0, [], [], []⟩ := pk_refused t HOK.out HME.out 9 0 (zL sz) (by rw [zL_length]; omega) 168364297 1500 1 0 8 [bk1] _ 13 [] ⟨by decide, by decide⟩ bk1 (back_one prm13 bk1 gmay1 [] t HME.out) 11 (why_long t HOK.out 0 (zL sz) (by rw [zL_length]; omega) (zL_small sz) (by rw [zL_length]; omega)) (by decide)
              have HPKT : RowKit.Hid (∀ (W : World) (h1 : FH) (ma : Option Addr) (mc : Nat), PW w W g h1 8 100 [] C 13 [bk1] (tabF [bk1] 13) a3 1 c3 G3 1 → RowB W ma n mc (madeF (kOf t) 1 0 []) → _) := Lib.hid (fun W h1 ma mc p r => pktD W g h1 8 100 [] p.f.q C [bk1] _ a3 1 c3 G3 1 p.c (fun b hb => by obtain rfl := List.mem_singleton.1 hb; exact ⟨by decide, by decide⟩) 8 1 0 _ 7 hR1 ma n mc r)
              have HPKT2 : RowKit.Hid (∀ (W : World) (h1 : FH) (ma : Option Addr) (mc : Nat), PW w W g h1 8 100 [] C 13 [bk1] (tabF [bk1] 13) a3 1 c3 G3 1 → RowB W ma n2 mc (madeF (kOf t) 9 0 (zL sz)) → _) := Lib.hid (fun W h1 ma mc p r => pktD W g h1 8 100 [] p.f.q C [bk1] _ a3 1 c3 G3 1 p.c (fun b hb => by obtain rfl := List.mem_singleton.1 hb; exact ⟨by decide, by decide⟩) 8 1 0 _ 11 hR2 ma n2 mc r)
              clear hR1 hR2
              generalize madeF (kOf t) 1 0 [] = xs at HMK HPKT
              generalize madeF (kOf t) 9 0 (zL sz) = xs2 at HMK2 HPKT2
              simp only [cfg23, cfgC, tcs] at HMK HPKT HMK2 HPKT2
              go_wp2_with fail
              (with_reducible refine HMT.out.mono ?_)
              rintro e w5 ⟨rfl, t5⟩
              have HPW := Lib.hid (HPW.out.still t5)
              have HKB := Lib.hid (t5.keeps HKB.out (fun h => h))
              clear t5 hn hn2 q0 q1 q2 q3 q4 c0 c1 c2 c3' c4 hsz
              go_upto_region 17 with (fail)
              go_cut [12] (fun s12 wx => ∃ AC pa pn pc qa qc h', s12 = .pointer (some ⟨AC, 0, none⟩) ∧ wx.heap[AC]? = some (.cells (planV 1 7 0 (.slice pa pn pc) (.slice qa 0 qc)) 53 (0, 0)) ∧ PW w wx g h' 8 100 [] C 13 [bk1] (tabF [bk1] 13) a3 1 c3 G3 1 ∧ Off g h' C a3 1 G3 AC ∧ wx.heap[KB]? = some (.cells (tcs t) 37 (0, 0)) ∧ Off g h' C a3 1 G3 KB)
              case first =>
                have HPW := Lib.hid (HPW.out.still (Touch.refl w5 (fun _ => False)).drew)
                have HKB : RowKit.Hid (w5.drew.heap[KB]? = some (.cells (tcs t) 37 (0, 0))) := Lib.hid HKB.out
                go_wp2_with fail
                have hS := HKB.out
                refine wp_region_tree (fun w' => w'.heap[KB]? = some (.cells (tcs t) 37 (0, 0))) (.take 1 (.take 2 (.take 3 (.two 0 6 (.two 4 6 (.two 5 6 (.one 6 (.one 7 .fin)) (.one 5 (.one 7 .fin))) (.one 4 (.one 5 (.one 7 .fin)))) (.one 0 (.one 4 (.one 5 (.one 7 .fin)))))))) (by kernel_rfl) (by kernel_rfl) (by kernel_rfl) (by kernel_rfl) hS ?_
                refine walkT_take ?_
                (refine takeN_take (v := ?_) (some 83) rfl rfl (fun _ _ _ h => h) (by rfl) ?_ ?_; rotate_left; (focus (intro w' hw'; go_simp; (try with_reducible rfl))); (try simp only [Act.put, List.setIfInBounds_toArray, List.set_cons_zero, List.set_cons_succ]))
                refine walkT_take ?_
                (refine takeN_take (v := ?_) (some 84) rfl rfl (fun _ _ _ h => h) (by rfl) ?_ ?_; rotate_left; (focus (intro w' hw'; go_simp; (try with_reducible rfl))); (try simp only [Act.put, List.setIfInBounds_toArray, List.set_cons_zero, List.set_cons_succ]))
                refine walkT_take ?_
                (refine takeN_row (some 85) rfl rfl 37 (.tmp 11) rfl (KB) rfl _ _ _ _ (fun w' h => h) Tryz.underlying37 rfl infoT (fun _ _ _ h => h) (by rfl) ?_; (try simp only [Act.put, List.setIfInBounds_toArray, List.set_cons_zero, List.set_cons_succ]))
                refine walkT_two ?_ ?_
                · (refine runN_call 82 9 _ _ _ (HCFG.out _) rfl rfl rfl (by rfl) rfl (enter_config _ _) ?_; rintro e wa ⟨rfl, ta⟩; (try have HAC := Lib.hid (ta.keeps HAC.out (fun h => h))); (try have HA1 := Lib.hid (ta.keeps HA1.out (fun h => h))); (try have HROW := Lib.hid (HROW.out.touch ta (fun _ _ => .inr (fun h => h)))); (try have HZR := Lib.hid (HZR.out.touch ta (fun _ _ => .inr (fun h => h)))); have HKB := Lib.hid (ta.keeps HKB.out (fun h => h)); have HPW := Lib.hid (HPW.out.still ta); refine ⟨_, rfl, HKB.out, fun hS => ?_⟩; clear ta; (try simp only [Act.put, List.setIfInBounds_toArray, List.set_cons_zero, List.set_cons_succ]))
                  refine walkT_two ?_ ?_
                  · (refine runN_call 86 27 _ _ _ (HMK.out _) rfl rfl rfl (by rfl) rfl (enter_made _ _ _ _ _) ?_; rintro e wb ⟨ma, mc, rfl, hfb⟩; have tb := hfb.2; (try have HAC := Lib.hid (tb.keeps HAC.out (fun h => h))); (try have HA1 := Lib.hid (tb.keeps HA1.out (fun h => h))); (try have HROW := Lib.hid (HROW.out.touch tb (fun _ _ => .inr (fun h => h)))); (try have HZR := Lib.hid (HZR.out.touch tb (fun _ _ => .inr (fun h => h)))); have HKB := Lib.hid (tb.keeps HKB.out (fun h => h)); have HPW := Lib.hid (HPW.out.still tb); have HROW := Lib.hid hfb.row'.2; refine ⟨_, rfl, HKB.out, fun hS => ?_⟩; clear tb hfb; (try simp only [Act.put, List.setIfInBounds_toArray, List.set_cons_zero, List.set_cons_succ]))
                    refine walkT_two ?_ ?_
                    · (refine runN_call 87 18 _ _ _ (HPKT.out _ _ _ _ HPW.out HROW.out) rfl rfl rfl (by rfl) rfl (enter_packet _ _ _ _ _ _ _) ?_; rintro e wc ⟨pa, pn, pc, qa, qc, rfl, hst⟩; obtain ⟨h', M1, hpm, hpw, hoff⟩ := HPW.out.step hst; have HKO1 := Lib.hid (hoff _ (heap_lt HKB.out) HKO.out); (try have HAO1 := Lib.hid (hoff _ (heap_lt HAC.out) HAO.out)); (try have HAC := Lib.hid ((step_touch hst).keeps HAC.out HAO.out.1)); (try have HA1P := Lib.hid (hoff _ (heap_lt HA1.out) HA1O.out)); (try have HA1 := Lib.hid ((step_touch hst).keeps HA1.out HA1O.out.1)); have HKB := Lib.hid ((step_touch hst).keeps HKB.out HKO.out.1); clear HKO; have HKO := Lib.hid HKO1.out; (try (have HAO2 := Lib.hid HAO1.out; clear HAO; have HAO := Lib.hid HAO2.out; clear HAO1 HAO2)); (try (have HA1Q := Lib.hid HA1P.out; clear HA1O; have HA1O := Lib.hid HA1Q.out; clear HA1P HA1Q)); obtain rfl := List.perm_nil.1 hpm; have HPW := Lib.hid hpw; refine ⟨_, rfl, HKB.out, fun hS => ?_⟩; clear hst hpm hpw hoff HKO1; (try simp only [Act.put, List.setIfInBounds_toArray, List.set_cons_zero, List.set_cons_succ]))
                      refine walkT_one ?_
                      (have HAL := Lib.hid HPW.out.f.t.size; have HAO := Lib.hid (HPW.out.new _ (Nat.le_refl _)); have HKA := Lib.hid (Nat.ne_of_lt (heap_lt HKB.out)); (try have HA1A := Lib.hid (Nat.ne_of_lt (heap_lt HA1.out))); refine runN_new 12 (fun W => .pointer (some ⟨W.heap.size, 0, none⟩)) (planV 0 0 0 (.slice none 0 0) (.slice none 0 0)) 53 rfl rfl (by rfl) (by intro W; go_simp <;> first | with_reducible rfl | rfl | exact ⟨rfl, rfl⟩) ?_; intro w7 hw7 hM7 hs7 t7; (try have HAC := Lib.hid (t7.keeps HAC.out (fun h => h))); (try have HA1 := Lib.hid (t7.keeps HA1.out (fun h => h))); (try have HROW := Lib.hid (HROW.out.touch t7 (fun _ _ => .inr (fun h => h)))); (try have HZR := Lib.hid (HZR.out.touch t7 (fun _ _ => .inr (fun h => h)))); have HKB := Lib.hid (t7.keeps HKB.out (fun h => h)); have HPW := Lib.hid (HPW.out.still t7); have HAC := Lib.hid hM7; refine ⟨HKB.out, fun _ => ?_⟩; clear hw7 hs7 hM7 t7; (try simp only [Act.put, List.setIfInBounds_toArray, List.set_cons_zero, List.set_cons_succ]))
                      refine walkT_one ?_
                      (refine runN_store rfl rfl (by rfl) 53 _ _ rfl _ (planV 1 7 0 (.slice pa pn pc) (.slice qa 0 qc)) rfl rfl _ _ HAC.out infoPlan rfl rfl ?_; intro w8 hM8 t8; have HAC := Lib.hid hM8; have HKB := Lib.hid (t8.keeps HKB.out HKA.out); (try have HA1 := Lib.hid (t8.keeps HA1.out HA1A.out)); have HPW := Lib.hid (HPW.out.set _ HAO.out HAL.out t8); refine ⟨HKB.out, fun hS => ?_⟩; clear hM8 t8; (try simp only [Act.put, List.setIfInBounds_toArray, List.set_cons_zero, List.set_cons_succ]))
                      refine walkT_fin ?_
                      go_wp2_with fail
                      go_meet
                      exact ⟨_, _, _, _, _, _, _, rfl, HAC.out, HPW.out, HAO.out, HKB.out, HKO.out⟩
                    · (have HAL := Lib.hid HPW.out.f.t.size; have HAO := Lib.hid (HPW.out.new _ (Nat.le_refl _)); have HKA := Lib.hid (Nat.ne_of_lt (heap_lt HKB.out)); (try have HA1A := Lib.hid (Nat.ne_of_lt (heap_lt HA1.out))); refine runN_new 12 (fun W => .pointer (some ⟨W.heap.size, 0, none⟩)) (planV 0 0 0 (.slice none 0 0) (.slice none 0 0)) 53 rfl rfl (by rfl) (by intro W; go_simp <;> first | with_reducible rfl | rfl | exact ⟨rfl, rfl⟩) ?_; intro w7 hw7 hM7 hs7 t7; (try have HAC := Lib.hid (t7.keeps HAC.out (fun h => h))); (try have HA1 := Lib.hid (t7.keeps HA1.out (fun h => h))); (try have HROW := Lib.hid (HROW.out.touch t7 (fun _ _ => .inr (fun h => h)))); (try have HZR := Lib.hid (HZR.out.touch t7 (fun _ _ => .inr (fun h => h)))); have HKB := Lib.hid (t7.keeps HKB.out (fun h => h)); have HPW := Lib.hid (HPW.out.still t7); have HAC := Lib.hid hM7; refine ⟨HKB.out, fun _ => ?_⟩; clear hw7 hs7 hM7 t7; (try simp only [Act.put, List.setIfInBounds_toArray, List.set_cons_zero, List.set_cons_succ]))
                      refine walkT_one ?_
                      (refine runN_call 87 18 _ _ _ (HPKT.out _ _ _ _ HPW.out HROW.out) rfl rfl rfl (by rfl) rfl (enter_packet _ _ _ _ _ _ _) ?_; rintro e wc ⟨pa, pn, pc, qa, qc, rfl, hst⟩; obtain ⟨h', M1, hpm, hpw, hoff⟩ := HPW.out.step hst; have HKO1 := Lib.hid (hoff _ (heap_lt HKB.out) HKO.out); (try have HAO1 := Lib.hid (hoff _ (heap_lt HAC.out) HAO.out)); (try have HAC := Lib.hid ((step_touch hst).keeps HAC.out HAO.out.1)); (try have HA1P := Lib.hid (hoff _ (heap_lt HA1.out) HA1O.out)); (try have HA1 := Lib.hid ((step_touch hst).keeps HA1.out HA1O.out.1)); have HKB := Lib.hid ((step_touch hst).keeps HKB.out HKO.out.1); clear HKO; have HKO := Lib.hid HKO1.out; (try (have HAO2 := Lib.hid HAO1.out; clear HAO; have HAO := Lib.hid HAO2.out; clear HAO1 HAO2)); (try (have HA1Q := Lib.hid HA1P.out; clear HA1O; have HA1O := Lib.hid HA1Q.out; clear HA1P HA1Q)); obtain rfl := List.perm_nil.1 hpm; have HPW := Lib.hid hpw; refine ⟨_, rfl, HKB.out, fun hS => ?_⟩; clear hst hpm hpw hoff HKO1; (try simp only [Act.put, List.setIfInBounds_toArray, List.set_cons_zero, List.set_cons_succ]))
                      refine walkT_one ?_
                      (refine runN_store rfl rfl (by rfl) 53 _ _ rfl _ (planV 1 7 0 (.slice pa pn pc) (.slice qa 0 qc)) rfl rfl _ _ HAC.out infoPlan rfl rfl ?_; intro w8 hM8 t8; have HAC := Lib.hid hM8; have HKB := Lib.hid (t8.keeps HKB.out HKA.out); (try have HA1 := Lib.hid (t8.keeps HA1.out HA1A.out)); have HPW := Lib.hid (HPW.out.set _ HAO.out HAL.out t8); refine ⟨HKB.out, fun hS => ?_⟩; clear hM8 t8; (try simp only [Act.put, List.setIfInBounds_toArray, List.set_cons_zero, List.set_cons_succ]))
                      refine walkT_fin ?_
                      go_wp2_with fail
                      go_meet
                      exact ⟨_, _, _, _, _, _, _, rfl, HAC.out, HPW.out, HAO.out, HKB.out, HKO.out⟩
                  · (have HAL := Lib.hid HPW.out.f.t.size; have HAO := Lib.hid (HPW.out.new _ (Nat.le_refl _)); have HKA := Lib.hid (Nat.ne_of_lt (heap_lt HKB.out)); (try have HA1A := Lib.hid (Nat.ne_of_lt (heap_lt HA1.out))); refine runN_new 12 (fun W => .pointer (some ⟨W.heap.size, 0, none⟩)) (planV 0 0 0 (.slice none 0 0) (.slice none 0 0)) 53 rfl rfl (by rfl) (by intro W; go_simp <;> first | with_reducible rfl | rfl | exact ⟨rfl, rfl⟩) ?_; intro w7 hw7 hM7 hs7 t7; (try have HAC := Lib.hid (t7.keeps HAC.out (fun h => h))); (try have HA1 := Lib.hid (t7.keeps HA1.out (fun h => h))); (try have HROW := Lib.hid (HROW.out.touch t7 (fun _ _ => .inr (fun h => h)))); (try have HZR := Lib.hid (HZR.out.touch t7 (fun _ _ => .inr (fun h => h)))); have HKB := Lib.hid (t7.keeps HKB.out (fun h => h)); have HPW := Lib.hid (HPW.out.still t7); have HAC := Lib.hid hM7; refine ⟨HKB.out, fun _ => ?_⟩; clear hw7 hs7 hM7 t7; (try simp only [Act.put, List.setIfInBounds_toArray, List.set_cons_zero, List.set_cons_succ]))
                    refine walkT_one ?_
                    (refine runN_call 86 27 _ _ _ (HMK.out _) rfl rfl rfl (by rfl) rfl (enter_made _ _ _ _ _) ?_; rintro e wb ⟨ma, mc, rfl, hfb⟩; have tb := hfb.2; (try have HAC := Lib.hid (tb.keeps HAC.out (fun h => h))); (try have HA1 := Lib.hid (tb.keeps HA1.out (fun h => h))); (try have HROW := Lib.hid (HROW.out.touch tb (fun _ _ => .inr (fun h => h)))); (try have HZR := Lib.hid (HZR.out.touch tb (fun _ _ => .inr (fun h => h)))); have HKB := Lib.hid (tb.keeps HKB.out (fun h => h)); have HPW := Lib.hid (HPW.out.still tb); have HROW := Lib.hid hfb.row'.2; refine ⟨_, rfl, HKB.out, fun hS => ?_⟩; clear tb hfb; (try simp only [Act.put, List.setIfInBounds_toArray, List.set_cons_zero, List.set_cons_succ]))
                    refine walkT_one ?_
                    (refine runN_call 87 18 _ _ _ (HPKT.out _ _ _ _ HPW.out HROW.out) rfl rfl rfl (by rfl) rfl (enter_packet _ _ _ _ _ _ _) ?_; rintro e wc ⟨pa, pn, pc, qa, qc, rfl, hst⟩; obtain ⟨h', M1, hpm, hpw, hoff⟩ := HPW.out.step hst; have HKO1 := Lib.hid (hoff _ (heap_lt HKB.out) HKO.out); (try have HAO1 := Lib.hid (hoff _ (heap_lt HAC.out) HAO.out)); (try have HAC := Lib.hid ((step_touch hst).keeps HAC.out HAO.out.1)); (try have HA1P := Lib.hid (hoff _ (heap_lt HA1.out) HA1O.out)); (try have HA1 := Lib.hid ((step_touch hst).keeps HA1.out HA1O.out.1)); have HKB := Lib.hid ((step_touch hst).keeps HKB.out HKO.out.1); clear HKO; have HKO := Lib.hid HKO1.out; (try (have HAO2 := Lib.hid HAO1.out; clear HAO; have HAO := Lib.hid HAO2.out; clear HAO1 HAO2)); (try (have HA1Q := Lib.hid HA1P.out; clear HA1O; have HA1O := Lib.hid HA1Q.out; clear HA1P HA1Q)); obtain rfl := List.perm_nil.1 hpm; have HPW := Lib.hid hpw; refine ⟨_, rfl, HKB.out, fun hS => ?_⟩; clear hst hpm hpw hoff HKO1; (try simp only [Act.put, List.setIfInBounds_toArray, List.set_cons_zero, List.set_cons_succ]))
                    refine walkT_one ?_
                    (refine runN_store rfl rfl (by rfl) 53 _ _ rfl _ (planV 1 7 0 (.slice pa pn pc) (.slice qa 0 qc)) rfl rfl _ _ HAC.out infoPlan rfl rfl ?_; intro w8 hM8 t8; have HAC := Lib.hid hM8; have HKB := Lib.hid (t8.keeps HKB.out HKA.out); (try have HA1 := Lib.hid (t8.keeps HA1.out HA1A.out)); have HPW := Lib.hid (HPW.out.set _ HAO.out HAL.out t8); refine ⟨HKB.out, fun hS => ?_⟩; clear hM8 t8; (try simp only [Act.put, List.setIfInBounds_toArray, List.set_cons_zero, List.set_cons_succ]))
                    refine walkT_fin ?_
                    go_wp2_with fail
                    go_meet
                    exact ⟨_, _, _, _, _, _, _, rfl, HAC.out, HPW.out, HAO.out, HKB.out, HKO.out⟩
                · (have HAL := Lib.hid HPW.out.f.t.size; have HAO := Lib.hid (HPW.out.new _ (Nat.le_refl _)); have HKA := Lib.hid (Nat.ne_of_lt (heap_lt HKB.out)); (try have HA1A := Lib.hid (Nat.ne_of_lt (heap_lt HA1.out))); refine runN_new 12 (fun W => .pointer (some ⟨W.heap.size, 0, none⟩)) (planV 0 0 0 (.slice none 0 0) (.slice none 0 0)) 53 rfl rfl (by rfl) (by intro W; go_simp <;> first | with_reducible rfl | rfl | exact ⟨rfl, rfl⟩) ?_; intro w7 hw7 hM7 hs7 t7; (try have HAC := Lib.hid (t7.keeps HAC.out (fun h => h))); (try have HA1 := Lib.hid (t7.keeps HA1.out (fun h => h))); (try have HROW := Lib.hid (HROW.out.touch t7 (fun _ _ => .inr (fun h => h)))); (try have HZR := Lib.hid (HZR.out.touch t7 (fun _ _ => .inr (fun h => h)))); have HKB := Lib.hid (t7.keeps HKB.out (fun h => h)); have HPW := Lib.hid (HPW.out.still t7); have HAC := Lib.hid hM7; refine ⟨HKB.out, fun _ => ?_⟩; clear hw7 hs7 hM7 t7; (try simp only [Act.put, List.setIfInBounds_toArray, List.set_cons_zero, List.set_cons_succ]))
                  refine walkT_one ?_
                  (refine runN_call 82 9 _ _ _ (HCFG.out _) rfl rfl rfl (by rfl) rfl (enter_config _ _) ?_; rintro e wa ⟨rfl, ta⟩; (try have HAC := Lib.hid (ta.keeps HAC.out (fun h => h))); (try have HA1 := Lib.hid (ta.keeps HA1.out (fun h => h))); (try have HROW := Lib.hid (HROW.out.touch ta (fun _ _ => .inr (fun h => h)))); (try have HZR := Lib.hid (HZR.out.touch ta (fun _ _ => .inr (fun h => h)))); have HKB := Lib.hid (ta.keeps HKB.out (fun h => h)); have HPW := Lib.hid (HPW.out.still ta); refine ⟨_, rfl, HKB.out, fun hS => ?_⟩; clear ta; (try simp only [Act.put, List.setIfInBounds_toArray, List.set_cons_zero, List.set_cons_succ]))
                  refine walkT_one ?_
                  (refine runN_call 86 27 _ _ _ (HMK.out _) rfl rfl rfl (by rfl) rfl (enter_made _ _ _ _ _) ?_; rintro e wb ⟨ma, mc, rfl, hfb⟩; have tb := hfb.2; (try have HAC := Lib.hid (tb.keeps HAC.out (fun h => h))); (try have HA1 := Lib.hid (tb.keeps HA1.out (fun h => h))); (try have HROW := Lib.hid (HROW.out.touch tb (fun _ _ => .inr (fun h => h)))); (try have HZR := Lib.hid (HZR.out.touch tb (fun _ _ => .inr (fun h => h)))); have HKB := Lib.hid (tb.keeps HKB.out (fun h => h)); have HPW := Lib.hid (HPW.out.still tb); have HROW := Lib.hid hfb.row'.2; refine ⟨_, rfl, HKB.out, fun hS => ?_⟩; clear tb hfb; (try simp only [Act.put, List.setIfInBounds_toArray, List.set_cons_zero, List.set_cons_succ]))
                  refine walkT_one ?_
                  (refine runN_call 87 18 _ _ _ (HPKT.out _ _ _ _ HPW.out HROW.out) rfl rfl rfl (by rfl) rfl (enter_packet _ _ _ _ _ _ _) ?_; rintro e wc ⟨pa, pn, pc, qa, qc, rfl, hst⟩; obtain ⟨h', M1, hpm, hpw, hoff⟩ := HPW.out.step hst; have HKO1 := Lib.hid (hoff _ (heap_lt HKB.out) HKO.out); (try have HAO1 := Lib.hid (hoff _ (heap_lt HAC.out) HAO.out)); (try have HAC := Lib.hid ((step_touch hst).keeps HAC.out HAO.out.1)); (try have HA1P := Lib.hid (hoff _ (heap_lt HA1.out) HA1O.out)); (try have HA1 := Lib.hid ((step_touch hst).keeps HA1.out HA1O.out.1)); have HKB := Lib.hid ((step_touch hst).keeps HKB.out HKO.out.1); clear HKO; have HKO := Lib.hid HKO1.out; (try (have HAO2 := Lib.hid HAO1.out; clear HAO; have HAO := Lib.hid HAO2.out; clear HAO1 HAO2)); (try (have HA1Q := Lib.hid HA1P.out; clear HA1O; have HA1O := Lib.hid HA1Q.out; clear HA1P HA1Q)); obtain rfl := List.perm_nil.1 hpm; have HPW := Lib.hid hpw; refine ⟨_, rfl, HKB.out, fun hS => ?_⟩; clear hst hpm hpw hoff HKO1; (try simp only [Act.put, List.setIfInBounds_toArray, List.set_cons_zero, List.set_cons_succ]))
                  refine walkT_one ?_
                  (refine runN_store rfl rfl (by rfl) 53 _ _ rfl _ (planV 1 7 0 (.slice pa pn pc) (.slice qa 0 qc)) rfl rfl _ _ HAC.out infoPlan rfl rfl ?_; intro w8 hM8 t8; have HAC := Lib.hid hM8; have HKB := Lib.hid (t8.keeps HKB.out HKA.out); (try have HA1 := Lib.hid (t8.keeps HA1.out HA1A.out)); have HPW := Lib.hid (HPW.out.set _ HAO.out HAL.out t8); refine ⟨HKB.out, fun hS => ?_⟩; clear hM8 t8; (try simp only [Act.put, List.setIfInBounds_toArray, List.set_cons_zero, List.set_cons_succ]))
                  refine walkT_fin ?_
                  go_wp2_with fail
                  go_meet
                  exact ⟨_, _, _, _, _, _, _, rfl, HAC.out, HPW.out, HAO.out, HKB.out, HKO.out⟩
              case rest =>
                obtain ⟨A1, pa1, pn1, pc1, qa1, qc1, h7, rfl, hA, hP, hO, hKb, hKo⟩ := hcut
                obtain ⟨w6, hw6⟩ : ∃ W, W = wc := ⟨_, rfl⟩
                rw [← hw6] at hA hP hKb ⊢
                have HA1 := Lib.hid hA
                have HA1O := Lib.hid hO
                clear HPW HKB HKO
                have HPW := Lib.hid hP
                have HKB := Lib.hid hKb
                have HKO := Lib.hid hKo
                clear hA hP hO hKb hKo hw6 HPKT HMK
                go_upto_region 18 with (fail)
                go_cut [13] (fun s13 wx => ∃ AC pa pn pc qa qc h', s13 = .pointer (some ⟨AC, 0, none⟩) ∧ wx.heap[AC]? = some (.cells (planV 1 11 0 (.slice pa pn pc) (.slice qa 0 qc)) 53 (0, 0)) ∧ PW w wx g h' 8 100 [] C 13 [bk1] (tabF [bk1] 13) a3 1 c3 G3 1 ∧ wx.heap[A1]? = some (.cells (planV 1 7 0 (.slice pa1 pn1 pc1) (.slice qa1 0 qc1)) 53 (0, 0)))
                case first =>
                  have HPW := Lib.hid (HPW.out.still (Touch.refl w6 (fun _ => False)).drew)
                  have HKB : RowKit.Hid (w6.drew.heap[KB]? = some (.cells (tcs t) 37 (0, 0))) := Lib.hid HKB.out
                  have HA1 : RowKit.Hid (w6.drew.heap[A1]? = some (.cells (planV 1 7 0 (.slice pa1 pn1 pc1) (.slice qa1 0 qc1)) 53 (0, 0))) := Lib.hid HA1.out
                  go_wp2_with fail
                  have hS := HKB.out
                  refine wp_region_tree3 (fun w' => w'.heap[KB]? = some (.cells (tcs t) 37 (0, 0))) (.take 1 (.take 2 (.take 3 (.take 4 (.three 0 5 8 (.two 5 8 (.two 6 8 (.two 7 8 (.one 8 (.one 9 .fin)) (.one 7 (.one 9 .fin))) (.one 6 (.one 7 (.one 9 .fin)))) (.one 5 (.one 6 (.one 7 (.one 9 .fin))))) (.two 0 8 (.two 6 8 (.two 7 8 (.one 8 (.one 9 .fin)) (.one 7 (.one 9 .fin))) (.one 6 (.one 7 (.one 9 .fin)))) (.one 0 (.one 6 (.one 7 (.one 9 .fin))))) (.two 0 5 (.one 5 (.one 6 (.one 7 (.one 9 .fin)))) (.one 0 (.one 6 (.one 7 (.one 9 .fin)))))))))) (by kernel_rfl) (by kernel_rfl) (by kernel_rfl) (by kernel_rfl) hS ?_
                  refine walk3_take ?_
                  (refine takeN_take (v := ?_) (some 89) rfl rfl (fun _ _ _ h => h) (by rfl) ?_ ?_; rotate_left; (focus (intro w' hw'; go_simp; (try with_reducible rfl))); (try simp only [Act.put, List.setIfInBounds_toArray, List.set_cons_zero, List.set_cons_succ]))
                  refine walk3_take ?_
                  (refine takeN_take (v := ?_) (some 90) rfl rfl (fun _ _ _ h => h) (by rfl) ?_ ?_; rotate_left; (focus (intro w' hw'; go_simp; (try with_reducible rfl))); (try simp only [Act.put, List.setIfInBounds_toArray, List.set_cons_zero, List.set_cons_succ]))
                  refine walk3_take ?_
                  (refine takeN_row (some 91) rfl rfl 37 (.tmp 11) rfl (KB) rfl _ _ _ _ (fun w' h => h) Tryz.underlying37 rfl infoT (fun _ _ _ h => h) (by rfl) ?_; (try simp only [Act.put, List.setIfInBounds_toArray, List.set_cons_zero, List.set_cons_succ]))
                  refine walk3_take ?_
                  (refine takeN_take (v := ?_) (some 92) rfl rfl (fun _ _ _ h => h) (by rfl) ?_ ?_; rotate_left; (focus (intro w' hw'; go_simp; (try with_reducible rfl))); (try simp only [Act.put, List.setIfInBounds_toArray, List.set_cons_zero, List.set_cons_succ]))
                  refine walk3_three ?_ ?_ ?_
                  · (refine runN_call 88 9 _ _ _ (HCFG.out _) rfl rfl rfl (by rfl) rfl (enter_config _ _) ?_; rintro e wa ⟨rfl, ta⟩; (try have HAC := Lib.hid (ta.keeps HAC.out (fun h => h))); (try have HA1 := Lib.hid (ta.keeps HA1.out (fun h => h))); (try have HROW := Lib.hid (HROW.out.touch ta (fun _ _ => .inr (fun h => h)))); (try have HZR := Lib.hid (HZR.out.touch ta (fun _ _ => .inr (fun h => h)))); have HKB := Lib.hid (ta.keeps HKB.out (fun h => h)); have HPW := Lib.hid (HPW.out.still ta); refine ⟨_, rfl, HKB.out, fun hS => ?_⟩; clear ta; (try simp only [Act.put, List.setIfInBounds_toArray, List.set_cons_zero, List.set_cons_succ]))
                    refine walk3_two ?_ ?_
                    · (refine runN_new 93 (fun W => .slice (some ⟨W.heap.size, 0, none⟩) sz sz) (zB sz) 5 rfl rfl (by rfl) (by intro W; have hz := HMB.out W; go_simp <;> first | with_reducible rfl | rfl | exact ⟨rfl, rfl⟩) ?_; intro w6 hw6 hM6 hs6 t6; (try have HAC := Lib.hid (t6.keeps HAC.out (fun h => h))); (try have HA1 := Lib.hid (t6.keeps HA1.out (fun h => h))); (try have HROW := Lib.hid (HROW.out.touch t6 (fun _ _ => .inr (fun h => h)))); (try have HZR := Lib.hid (HZR.out.touch t6 (fun _ _ => .inr (fun h => h)))); have HKB := Lib.hid (t6.keeps HKB.out (fun h => h)); have HPW := Lib.hid (HPW.out.still t6); have HZR := Lib.hid (hw6 ▸ row_zB _ sz HSZB.out); refine ⟨HKB.out, fun _ => ?_⟩; clear hw6 hs6 hM6 t6; (try simp only [Act.put, List.setIfInBounds_toArray, List.set_cons_zero, List.set_cons_succ]))
                      refine walk3_two ?_ ?_
                      · (refine runN_call 94 27 _ _ _ (HMK2.out _ _ HZR.out) rfl rfl rfl (by rfl) rfl (enter_made _ _ _ _ _) ?_; rintro e wb ⟨ma, mc, rfl, hfb⟩; have tb := hfb.2; (try have HAC := Lib.hid (tb.keeps HAC.out (fun h => h))); (try have HA1 := Lib.hid (tb.keeps HA1.out (fun h => h))); (try have HROW := Lib.hid (HROW.out.touch tb (fun _ _ => .inr (fun h => h)))); (try have HZR := Lib.hid (HZR.out.touch tb (fun _ _ => .inr (fun h => h)))); have HKB := Lib.hid (tb.keeps HKB.out (fun h => h)); have HPW := Lib.hid (HPW.out.still tb); have HROW := Lib.hid hfb.row'.2; refine ⟨_, rfl, HKB.out, fun hS => ?_⟩; clear tb hfb; (try simp only [Act.put, List.setIfInBounds_toArray, List.set_cons_zero, List.set_cons_succ]))
                        refine walk3_two ?_ ?_
                        · (refine runN_call 95 18 _ _ _ (HPKT2.out _ _ _ _ HPW.out HROW.out) rfl rfl rfl (by rfl) rfl (enter_packet _ _ _ _ _ _ _) ?_; rintro e wc ⟨pa, pn, pc, qa, qc, rfl, hst⟩; obtain ⟨h', M1, hpm, hpw, hoff⟩ := HPW.out.step hst; have HKO1 := Lib.hid (hoff _ (heap_lt HKB.out) HKO.out); (try have HAO1 := Lib.hid (hoff _ (heap_lt HAC.out) HAO.out)); (try have HAC := Lib.hid ((step_touch hst).keeps HAC.out HAO.out.1)); (try have HA1P := Lib.hid (hoff _ (heap_lt HA1.out) HA1O.out)); (try have HA1 := Lib.hid ((step_touch hst).keeps HA1.out HA1O.out.1)); have HKB := Lib.hid ((step_touch hst).keeps HKB.out HKO.out.1); clear HKO; have HKO := Lib.hid HKO1.out; (try (have HAO2 := Lib.hid HAO1.out; clear HAO; have HAO := Lib.hid HAO2.out; clear HAO1 HAO2)); (try (have HA1Q := Lib.hid HA1P.out; clear HA1O; have HA1O := Lib.hid HA1Q.out; clear HA1P HA1Q)); obtain rfl := List.perm_nil.1 hpm; have HPW := Lib.hid hpw; refine ⟨_, rfl, HKB.out, fun hS => ?_⟩; clear hst hpm hpw hoff HKO1; (try simp only [Act.put, List.setIfInBounds_toArray, List.set_cons_zero, List.set_cons_succ]))
                          refine walk3_one ?_
                          (have HAL := Lib.hid HPW.out.f.t.size; have HAO := Lib.hid (HPW.out.new _ (Nat.le_refl _)); have HKA := Lib.hid (Nat.ne_of_lt (heap_lt HKB.out)); (try have HA1A := Lib.hid (Nat.ne_of_lt (heap_lt HA1.out))); refine runN_new 13 (fun W => .pointer (some ⟨W.heap.size, 0, none⟩)) (planV 0 0 0 (.slice none 0 0) (.slice none 0 0)) 53 rfl rfl (by rfl) (by intro W; go_simp <;> first | with_reducible rfl | rfl | exact ⟨rfl, rfl⟩) ?_; intro w7 hw7 hM7 hs7 t7; (try have HAC := Lib.hid (t7.keeps HAC.out (fun h => h))); (try have HA1 := Lib.hid (t7.keeps HA1.out (fun h => h))); (try have HROW := Lib.hid (HROW.out.touch t7 (fun _ _ => .inr (fun h => h)))); (try have HZR := Lib.hid (HZR.out.touch t7 (fun _ _ => .inr (fun h => h)))); have HKB := Lib.hid (t7.keeps HKB.out (fun h => h)); have HPW := Lib.hid (HPW.out.still t7); have HAC := Lib.hid hM7; refine ⟨HKB.out, fun _ => ?_⟩; clear hw7 hs7 hM7 t7; (try simp only [Act.put, List.setIfInBounds_toArray, List.set_cons_zero, List.set_cons_succ]))
                          refine walk3_one ?_
                          (refine runN_store rfl rfl (by rfl) 53 _ _ rfl _ (planV 1 11 0 (.slice pa pn pc) (.slice qa 0 qc)) rfl rfl _ _ HAC.out infoPlan rfl rfl ?_; intro w8 hM8 t8; have HAC := Lib.hid hM8; have HKB := Lib.hid (t8.keeps HKB.out HKA.out); (try have HA1 := Lib.hid (t8.keeps HA1.out HA1A.out)); have HPW := Lib.hid (HPW.out.set _ HAO.out HAL.out t8); refine ⟨HKB.out, fun hS => ?_⟩; clear hM8 t8; (try simp only [Act.put, List.setIfInBounds_toArray, List.set_cons_zero, List.set_cons_succ]))
                          refine walk3_fin ?_
                          go_wp2_with fail
                          go_meet
                          exact ⟨_, _, _, _, _, _, _, rfl, HAC.out, HPW.out, HA1.out⟩
                        · (have HAL := Lib.hid HPW.out.f.t.size; have HAO := Lib.hid (HPW.out.new _ (Nat.le_refl _)); have HKA := Lib.hid (Nat.ne_of_lt (heap_lt HKB.out)); (try have HA1A := Lib.hid (Nat.ne_of_lt (heap_lt HA1.out))); refine runN_new 13 (fun W => .pointer (some ⟨W.heap.size, 0, none⟩)) (planV 0 0 0 (.slice none 0 0) (.slice none 0 0)) 53 rfl rfl (by rfl) (by intro W; go_simp <;> first | with_reducible rfl | rfl | exact ⟨rfl, rfl⟩) ?_; intro w7 hw7 hM7 hs7 t7; (try have HAC := Lib.hid (t7.keeps HAC.out (fun h => h))); (try have HA1 := Lib.hid (t7.keeps HA1.out (fun h => h))); (try have HROW := Lib.hid (HROW.out.touch t7 (fun _ _ => .inr (fun h => h)))); (try have HZR := Lib.hid (HZR.out.touch t7 (fun _ _ => .inr (fun h => h)))); have HKB := Lib.hid (t7.keeps HKB.out (fun h => h)); have HPW := Lib.hid (HPW.out.still t7); have HAC := Lib.hid hM7; refine ⟨HKB.out, fun _ => ?_⟩; clear hw7 hs7 hM7 t7; (try simp only [Act.put, List.setIfInBounds_toArray, List.set_cons_zero, List.set_cons_succ]))
                          refine walk3_one ?_
                          (refine runN_call 95 18 _ _ _ (HPKT2.out _ _ _ _ HPW.out HROW.out) rfl rfl rfl (by rfl) rfl (enter_packet _ _ _ _ _ _ _) ?_; rintro e wc ⟨pa, pn, pc, qa, qc, rfl, hst⟩; obtain ⟨h', M1, hpm, hpw, hoff⟩ := HPW.out.step hst; have HKO1 := Lib.hid (hoff _ (heap_lt HKB.out) HKO.out); (try have HAO1 := Lib.hid (hoff _ (heap_lt HAC.out) HAO.out)); (try have HAC := Lib.hid ((step_touch hst).keeps HAC.out HAO.out.1)); (try have HA1P := Lib.hid (hoff _ (heap_lt HA1.out) HA1O.out)); (try have HA1 := Lib.hid ((step_touch hst).keeps HA1.out HA1O.out.1)); have HKB := Lib.hid ((step_touch hst).keeps HKB.out HKO.out.1); clear HKO; have HKO := Lib.hid HKO1.out; (try (have HAO2 := Lib.hid HAO1.out; clear HAO; have HAO := Lib.hid HAO2.out; clear HAO1 HAO2)); (try (have HA1Q := Lib.hid HA1P.out; clear HA1O; have HA1O := Lib.hid HA1Q.out; clear HA1P HA1Q)); obtain rfl := List.perm_nil.1 hpm; have HPW := Lib.hid hpw; refine ⟨_, rfl, HKB.out, fun hS => ?_⟩; clear hst hpm hpw hoff HKO1; (try simp only [Act.put, List.setIfInBounds_toArray, List.set_cons_zero, List.set_cons_succ]))
                          refine walk3_one ?_
                          (refine runN_store rfl rfl (by rfl) 53 _ _ rfl _ (planV 1 11 0 (.slice pa pn pc) (.slice qa 0 qc)) rfl rfl _ _ HAC.out infoPlan rfl rfl ?_; intro w8 hM8 t8; have HAC := Lib.hid hM8; have HKB := Lib.hid (t8.keeps HKB.out HKA.out); (try have HA1 := Lib.hid (t8.keeps HA1.out HA1A.out)); have HPW := Lib.hid (HPW.out.set _ HAO.out HAL.out t8); refine ⟨HKB.out, fun hS => ?_⟩; clear hM8 t8; (try simp only [Act.put, List.setIfInBounds_toArray, List.set_cons_zero, List.set_cons_succ]))
                          refine walk3_fin ?_
                          go_wp2_with fail
                          go_meet
                          exact ⟨_, _, _, _, _, _, _, rfl, HAC.out, HPW.out, HA1.out⟩
                      · (have HAL := Lib.hid HPW.out.f.t.size; have HAO := Lib.hid (HPW.out.new _ (Nat.le_refl _)); have HKA := Lib.hid (Nat.ne_of_lt (heap_lt HKB.out)); (try have HA1A := Lib.hid (Nat.ne_of_lt (heap_lt HA1.out))); refine runN_new 13 (fun W => .pointer (some ⟨W.heap.size, 0, none⟩)) (planV 0 0 0 (.slice none 0 0) (.slice none 0 0)) 53 rfl rfl (by rfl) (by intro W; go_simp <;> first | with_reducible rfl | rfl | exact ⟨rfl, rfl⟩) ?_; intro w7 hw7 hM7 hs7 t7; (try have HAC := Lib.hid (t7.keeps HAC.out (fun h => h))); (try have HA1 := Lib.hid (t7.keeps HA1.out (fun h => h))); (try have HROW := Lib.hid (HROW.out.touch t7 (fun _ _ => .inr (fun h => h)))); (try have HZR := Lib.hid (HZR.out.touch t7 (fun _ _ => .inr (fun h => h)))); have HKB := Lib.hid (t7.keeps HKB.out (fun h => h)); have HPW := Lib.hid (HPW.out.still t7); have HAC := Lib.hid hM7; refine ⟨HKB.out, fun _ => ?_⟩; clear hw7 hs7 hM7 t7; (try simp only [Act.put, List.setIfInBounds_toArray, List.set_cons_zero, List.set_cons_succ]))
                        refine walk3_one ?_
                        (refine runN_call 94 27 _ _ _ (HMK2.out _ _ HZR.out) rfl rfl rfl (by rfl) rfl (enter_made _ _ _ _ _) ?_; rintro e wb ⟨ma, mc, rfl, hfb⟩; have tb := hfb.2; (try have HAC := Lib.hid (tb.keeps HAC.out (fun h => h))); (try have HA1 := Lib.hid (tb.keeps HA1.out (fun h => h))); (try have HROW := Lib.hid (HROW.out.touch tb (fun _ _ => .inr (fun h => h)))); (try have HZR := Lib.hid (HZR.out.touch tb (fun _ _ => .inr (fun h => h)))); have HKB := Lib.hid (tb.keeps HKB.out (fun h => h)); have HPW := Lib.hid (HPW.out.still tb); have HROW := Lib.hid hfb.row'.2; refine ⟨_, rfl, HKB.out, fun hS => ?_⟩; clear tb hfb; (try simp only [Act.put, List.setIfInBounds_toArray, List.set_cons_zero, List.set_cons_succ]))
                        refine walk3_one ?_
                        (refine runN_call 95 18 _ _ _ (HPKT2.out _ _ _ _ HPW.out HROW.out) rfl rfl rfl (by rfl) rfl (enter_packet _ _ _ _ _ _ _) ?_; rintro e wc ⟨pa, pn, pc, qa, qc, rfl, hst⟩; obtain ⟨h', M1, hpm, hpw, hoff⟩ := HPW.out.step hst; have HKO1 := Lib.hid (hoff _ (heap_lt HKB.out) HKO.out); (try have HAO1 := Lib.hid (hoff _ (heap_lt HAC.out) HAO.out)); (try have HAC := Lib.hid ((step_touch hst).keeps HAC.out HAO.out.1)); (try have HA1P := Lib.hid (hoff _ (heap_lt HA1.out) HA1O.out)); (try have HA1 := Lib.hid ((step_touch hst).keeps HA1.out HA1O.out.1)); have HKB := Lib.hid ((step_touch hst).keeps HKB.out HKO.out.1); clear HKO; have HKO := Lib.hid HKO1.out; (try (have HAO2 := Lib.hid HAO1.out; clear HAO; have HAO := Lib.hid HAO2.out; clear HAO1 HAO2)); (try (have HA1Q := Lib.hid HA1P.out; clear HA1O; have HA1O := Lib.hid HA1Q.out; clear HA1P HA1Q)); obtain rfl := List.perm_nil.1 hpm; have HPW := Lib.hid hpw; refine ⟨_, rfl, HKB.out, fun hS => ?_⟩; clear hst hpm hpw hoff HKO1; (try simp only [Act.put, List.setIfInBounds_toArray, List.set_cons_zero, List.set_cons_succ]))
                        refine walk3_one ?_
                        (refine runN_store rfl rfl (by rfl) 53 _ _ rfl _ (planV 1 11 0 (.slice pa pn pc) (.slice qa 0 qc)) rfl rfl _ _ HAC.out infoPlan rfl rfl ?_; intro w8 hM8 t8; have HAC := Lib.hid hM8; have HKB := Lib.hid (t8.keeps HKB.out HKA.out); (try have HA1 := Lib.hid (t8.keeps HA1.out HA1A.out)); have HPW := Lib.hid (HPW.out.set _ HAO.out HAL.out t8); refine ⟨HKB.out, fun hS => ?_⟩; clear hM8 t8; (try simp only [Act.put, List.setIfInBounds_toArray, List.set_cons_zero, List.set_cons_succ]))
                        refine walk3_fin ?_
                        go_wp2_with fail
                        go_meet
                        exact ⟨_, _, _, _, _, _, _, rfl, HAC.out, HPW.out, HA1.out⟩
                    · (have HAL := Lib.hid HPW.out.f.t.size; have HAO := Lib.hid (HPW.out.new _ (Nat.le_refl _)); have HKA := Lib.hid (Nat.ne_of_lt (heap_lt HKB.out)); (try have HA1A := Lib.hid (Nat.ne_of_lt (heap_lt HA1.out))); refine runN_new 13 (fun W => .pointer (some ⟨W.heap.size, 0, none⟩)) (planV 0 0 0 (.slice none 0 0) (.slice none 0 0)) 53 rfl rfl (by rfl) (by intro W; go_simp <;> first | with_reducible rfl | rfl | exact ⟨rfl, rfl⟩) ?_; intro w7 hw7 hM7 hs7 t7; (try have HAC := Lib.hid (t7.keeps HAC.out (fun h => h))); (try have HA1 := Lib.hid (t7.keeps HA1.out (fun h => h))); (try have HROW := Lib.hid (HROW.out.touch t7 (fun _ _ => .inr (fun h => h)))); (try have HZR := Lib.hid (HZR.out.touch t7 (fun _ _ => .inr (fun h => h)))); have HKB := Lib.hid (t7.keeps HKB.out (fun h => h)); have HPW := Lib.hid (HPW.out.still t7); have HAC := Lib.hid hM7; refine ⟨HKB.out, fun _ => ?_⟩; clear hw7 hs7 hM7 t7; (try simp only [Act.put, List.setIfInBounds_toArray, List.set_cons_zero, List.set_cons_succ]))
                      refine walk3_one ?_
                      (refine runN_new 93 (fun W => .slice (some ⟨W.heap.size, 0, none⟩) sz sz) (zB sz) 5 rfl rfl (by rfl) (by intro W; have hz := HMB.out W; go_simp <;> first | with_reducible rfl | rfl | exact ⟨rfl, rfl⟩) ?_; intro w6 hw6 hM6 hs6 t6; (try have HAC := Lib.hid (t6.keeps HAC.out (fun h => h))); (try have HA1 := Lib.hid (t6.keeps HA1.out (fun h => h))); (try have HROW := Lib.hid (HROW.out.touch t6 (fun _ _ => .inr (fun h => h)))); (try have HZR := Lib.hid (HZR.out.touch t6 (fun _ _ => .inr (fun h => h)))); have HKB := Lib.hid (t6.keeps HKB.out (fun h => h)); have HPW := Lib.hid (HPW.out.still t6); have HZR := Lib.hid (hw6 ▸ row_zB _ sz HSZB.out); refine ⟨HKB.out, fun _ => ?_⟩; clear hw6 hs6 hM6 t6; (try simp only [Act.put, List.setIfInBounds_toArray, List.set_cons_zero, List.set_cons_succ]))
                      refine walk3_one ?_
                      (refine runN_call 94 27 _ _ _ (HMK2.out _ _ HZR.out) rfl rfl rfl (by rfl) rfl (enter_made _ _ _ _ _) ?_; rintro e wb ⟨ma, mc, rfl, hfb⟩; have tb := hfb.2; (try have HAC := Lib.hid (tb.keeps HAC.out (fun h => h))); (try have HA1 := Lib.hid (tb.keeps HA1.out (fun h => h))); (try have HROW := Lib.hid (HROW.out.touch tb (fun _ _ => .inr (fun h => h)))); (try have HZR := Lib.hid (HZR.out.touch tb (fun _ _ => .inr (fun h => h)))); have HKB := Lib.hid (tb.keeps HKB.out (fun h => h)); have HPW := Lib.hid (HPW.out.still tb); have HROW := Lib.hid hfb.row'.2; refine ⟨_, rfl, HKB.out, fun hS => ?_⟩; clear tb hfb; (try simp only [Act.put, List.setIfInBounds_toArray, List.set_cons_zero, List.set_cons_succ]))
                      refine walk3_one ?_
                      (refine runN_call 95 18 _ _ _ (HPKT2.out _ _ _ _ HPW.out HROW.out) rfl rfl rfl (by rfl) rfl (enter_packet _ _ _ _ _ _ _) ?_; rintro e wc ⟨pa, pn, pc, qa, qc, rfl, hst⟩; obtain ⟨h', M1, hpm, hpw, hoff⟩ := HPW.out.step hst; have HKO1 := Lib.hid (hoff _ (heap_lt HKB.out) HKO.out); (try have HAO1 := Lib.hid (hoff _ (heap_lt HAC.out) HAO.out)); (try have HAC := Lib.hid ((step_touch hst).keeps HAC.out HAO.out.1)); (try have HA1P := Lib.hid (hoff _ (heap_lt HA1.out) HA1O.out)); (try have HA1 := Lib.hid ((step_touch hst).keeps HA1.out HA1O.out.1)); have HKB := Lib.hid ((step_touch hst).keeps HKB.out HKO.out.1); clear HKO; have HKO := Lib.hid HKO1.out; (try (have HAO2 := Lib.hid HAO1.out; clear HAO; have HAO := Lib.hid HAO2.out; clear HAO1 HAO2)); (try (have HA1Q := Lib.hid HA1P.out; clear HA1O; have HA1O := Lib.hid HA1Q.out; clear HA1P HA1Q)); obtain rfl := List.perm_nil.1 hpm; have HPW := Lib.hid hpw; refine ⟨_, rfl, HKB.out, fun hS => ?_⟩; clear hst hpm hpw hoff HKO1; (try simp only [Act.put, List.setIfInBounds_toArray, List.set_cons_zero, List.set_cons_succ]))
                      refine walk3_one ?_
                      (refine runN_store rfl rfl (by rfl) 53 _ _ rfl _ (planV 1 11 0 (.slice pa pn pc) (.slice qa 0 qc)) rfl rfl _ _ HAC.out infoPlan rfl rfl ?_; intro w8 hM8 t8; have HAC := Lib.hid hM8; have HKB := Lib.hid (t8.keeps HKB.out HKA.out); (try have HA1 := Lib.hid (t8.keeps HA1.out HA1A.out)); have HPW := Lib.hid (HPW.out.set _ HAO.out HAL.out t8); refine ⟨HKB.out, fun hS => ?_⟩; clear hM8 t8; (try simp only [Act.put, List.setIfInBounds_toArray, List.set_cons_zero, List.set_cons_succ]))
                      refine walk3_fin ?_
                      go_wp2_with fail
                      go_meet
                      exact ⟨_, _, _, _, _, _, _, rfl, HAC.out, HPW.out, HA1.out⟩
                  · (refine runN_new 93 (fun W => .slice (some ⟨W.heap.size, 0, none⟩) sz sz) (zB sz) 5 rfl rfl (by rfl) (by intro W; have hz := HMB.out W; go_simp <;> first | with_reducible rfl | rfl | exact ⟨rfl, rfl⟩) ?_; intro w6 hw6 hM6 hs6 t6; (try have HAC := Lib.hid (t6.keeps HAC.out (fun h => h))); (try have HA1 := Lib.hid (t6.keeps HA1.out (fun h => h))); (try have HROW := Lib.hid (HROW.out.touch t6 (fun _ _ => .inr (fun h => h)))); (try have HZR := Lib.hid (HZR.out.touch t6 (fun _ _ => .inr (fun h => h)))); have HKB := Lib.hid (t6.keeps HKB.out (fun h => h)); have HPW := Lib.hid (HPW.out.still t6); have HZR := Lib.hid (hw6 ▸ row_zB _ sz HSZB.out); refine ⟨HKB.out, fun _ => ?_⟩; clear hw6 hs6 hM6 t6; (try simp only [Act.put, List.setIfInBounds_toArray, List.set_cons_zero, List.set_cons_succ]))
                    refine walk3_two ?_ ?_
                    · (refine runN_call 88 9 _ _ _ (HCFG.out _) rfl rfl rfl (by rfl) rfl (enter_config _ _) ?_; rintro e wa ⟨rfl, ta⟩; (try have HAC := Lib.hid (ta.keeps HAC.out (fun h => h))); (try have HA1 := Lib.hid (ta.keeps HA1.out (fun h => h))); (try have HROW := Lib.hid (HROW.out.touch ta (fun _ _ => .inr (fun h => h)))); (try have HZR := Lib.hid (HZR.out.touch ta (fun _ _ => .inr (fun h => h)))); have HKB := Lib.hid (ta.keeps HKB.out (fun h => h)); have HPW := Lib.hid (HPW.out.still ta); refine ⟨_, rfl, HKB.out, fun hS => ?_⟩; clear ta; (try simp only [Act.put, List.setIfInBounds_toArray, List.set_cons_zero, List.set_cons_succ]))
                      refine walk3_two ?_ ?_
                      · (refine runN_call 94 27 _ _ _ (HMK2.out _ _ HZR.out) rfl rfl rfl (by rfl) rfl (enter_made _ _ _ _ _) ?_; rintro e wb ⟨ma, mc, rfl, hfb⟩; have tb := hfb.2; (try have HAC := Lib.hid (tb.keeps HAC.out (fun h => h))); (try have HA1 := Lib.hid (tb.keeps HA1.out (fun h => h))); (try have HROW := Lib.hid (HROW.out.touch tb (fun _ _ => .inr (fun h => h)))); (try have HZR := Lib.hid (HZR.out.touch tb (fun _ _ => .inr (fun h => h)))); have HKB := Lib.hid (tb.keeps HKB.out (fun h => h)); have HPW := Lib.hid (HPW.out.still tb); have HROW := Lib.hid hfb.row'.2; refine ⟨_, rfl, HKB.out, fun hS => ?_⟩; clear tb hfb; (try simp only [Act.put, List.setIfInBounds_toArray, List.set_cons_zero, List.set_cons_succ]))
                        refine walk3_two ?_ ?_
                        · (refine runN_call 95 18 _ _ _ (HPKT2.out _ _ _ _ HPW.out HROW.out) rfl rfl rfl (by rfl) rfl (enter_packet _ _ _ _ _ _ _) ?_; rintro e wc ⟨pa, pn, pc, qa, qc, rfl, hst⟩; obtain ⟨h', M1, hpm, hpw, hoff⟩ := HPW.out.step hst; have HKO1 := Lib.hid (hoff _ (heap_lt HKB.out) HKO.out); (try have HAO1 := Lib.hid (hoff _ (heap_lt HAC.out) HAO.out)); (try have HAC := Lib.hid ((step_touch hst).keeps HAC.out HAO.out.1)); (try have HA1P := Lib.hid (hoff _ (heap_lt HA1.out) HA1O.out)); (try have HA1 := Lib.hid ((step_touch hst).keeps HA1.out HA1O.out.1)); have HKB := Lib.hid ((step_touch hst).keeps HKB.out HKO.out.1); clear HKO; have HKO := Lib.hid HKO1.out; (try (have HAO2 := Lib.hid HAO1.out; clear HAO; have HAO := Lib.hid HAO2.out; clear HAO1 HAO2)); (try (have HA1Q := Lib.hid HA1P.out; clear HA1O; have HA1O := Lib.hid HA1Q.out; clear HA1P HA1Q)); obtain rfl := List.perm_nil.1 hpm; have HPW := Lib.hid hpw; refine ⟨_, rfl, HKB.out, fun hS => ?_⟩; clear hst hpm hpw hoff HKO1; (try simp only [Act.put, List.setIfInBounds_toArray, List.set_cons_zero, List.set_cons_succ]))
                          refine walk3_one ?_
                          (have HAL := Lib.hid HPW.out.f.t.size; have HAO := Lib.hid (HPW.out.new _ (Nat.le_refl _)); have HKA := Lib.hid (Nat.ne_of_lt (heap_lt HKB.out)); (try have HA1A := Lib.hid (Nat.ne_of_lt (heap_lt HA1.out))); refine runN_new 13 (fun W => .pointer (some ⟨W.heap.size, 0, none⟩)) (planV 0 0 0 (.slice none 0 0) (.slice none 0 0)) 53 rfl rfl (by rfl) (by intro W; go_simp <;> first | with_reducible rfl | rfl | exact ⟨rfl, rfl⟩) ?_; intro w7 hw7 hM7 hs7 t7; (try have HAC := Lib.hid (t7.keeps HAC.out (fun h => h))); (try have HA1 := Lib.hid (t7.keeps HA1.out (fun h => h))); (try have HROW := Lib.hid (HROW.out.touch t7 (fun _ _ => .inr (fun h => h)))); (try have HZR := Lib.hid (HZR.out.touch t7 (fun _ _ => .inr (fun h => h)))); have HKB := Lib.hid (t7.keeps HKB.out (fun h => h)); have HPW := Lib.hid (HPW.out.still t7); have HAC := Lib.hid hM7; refine ⟨HKB.out, fun _ => ?_⟩; clear hw7 hs7 hM7 t7; (try simp only [Act.put, List.setIfInBounds_toArray, List.set_cons_zero, List.set_cons_succ]))
                          refine walk3_one ?_
                          (refine runN_store rfl rfl (by rfl) 53 _ _ rfl _ (planV 1 11 0 (.slice pa pn pc) (.slice qa 0 qc)) rfl rfl _ _ HAC.out infoPlan rfl rfl ?_; intro w8 hM8 t8; have HAC := Lib.hid hM8; have HKB := Lib.hid (t8.keeps HKB.out HKA.out); (try have HA1 := Lib.hid (t8.keeps HA1.out HA1A.out)); have HPW := Lib.hid (HPW.out.set _ HAO.out HAL.out t8); refine ⟨HKB.out, fun hS => ?_⟩; clear hM8 t8; (try simp only [Act.put, List.setIfInBounds_toArray, List.set_cons_zero, List.set_cons_succ]))
                          refine walk3_fin ?_
                          go_wp2_with fail
                          go_meet
                          exact ⟨_, _, _, _, _, _, _, rfl, HAC.out, HPW.out, HA1.out⟩
                        · (have HAL := Lib.hid HPW.out.f.t.size; have HAO := Lib.hid (HPW.out.new _ (Nat.le_refl _)); have HKA := Lib.hid (Nat.ne_of_lt (heap_lt HKB.out)); (try have HA1A := Lib.hid (Nat.ne_of_lt (heap_lt HA1.out))); refine runN_new 13 (fun W => .pointer (some ⟨W.heap.size, 0, none⟩)) (planV 0 0 0 (.slice none 0 0) (.slice none 0 0)) 53 rfl rfl (by rfl) (by intro W; go_simp <;> first | with_reducible rfl | rfl | exact ⟨rfl, rfl⟩) ?_; intro w7 hw7 hM7 hs7 t7; (try have HAC := Lib.hid (t7.keeps HAC.out (fun h => h))); (try have HA1 := Lib.hid (t7.keeps HA1.out (fun h => h))); (try have HROW := Lib.hid (HROW.out.touch t7 (fun _ _ => .inr (fun h => h)))); (try have HZR := Lib.hid (HZR.out.touch t7 (fun _ _ => .inr (fun h => h)))); have HKB := Lib.hid (t7.keeps HKB.out (fun h => h)); have HPW := Lib.hid (HPW.out.still t7); have HAC := Lib.hid hM7; refine ⟨HKB.out, fun _ => ?_⟩; clear hw7 hs7 hM7 t7; (try simp only [Act.put, List.setIfInBounds_toArray, List.set_cons_zero, List.set_cons_succ]))
                          refine walk3_one ?_
                          (refine runN_call 95 18 _ _ _ (HPKT2.out _ _ _ _ HPW.out HROW.out) rfl rfl rfl (by rfl) rfl (enter_packet _ _ _ _ _ _ _) ?_; rintro e wc ⟨pa, pn, pc, qa, qc, rfl, hst⟩; obtain ⟨h', M1, hpm, hpw, hoff⟩ := HPW.out.step hst; have HKO1 := Lib.hid (hoff _ (heap_lt HKB.out) HKO.out); (try have HAO1 := Lib.hid (hoff _ (heap_lt HAC.out) HAO.out)); (try have HAC := Lib.hid ((step_touch hst).keeps HAC.out HAO.out.1)); (try have HA1P := Lib.hid (hoff _ (heap_lt HA1.out) HA1O.out)); (try have HA1 := Lib.hid ((step_touch hst).keeps HA1.out HA1O.out.1)); have HKB := Lib.hid ((step_touch hst).keeps HKB.out HKO.out.1); clear HKO; have HKO := Lib.hid HKO1.out; (try (have HAO2 := Lib.hid HAO1.out; clear HAO; have HAO := Lib.hid HAO2.out; clear HAO1 HAO2)); (try (have HA1Q := Lib.hid HA1P.out; clear HA1O; have HA1O := Lib.hid HA1Q.out; clear HA1P HA1Q)); obtain rfl := List.perm_nil.1 hpm; have HPW := Lib.hid hpw; refine ⟨_, rfl, HKB.out, fun hS => ?_⟩; clear hst hpm hpw hoff HKO1; (try simp only [Act.put, List.setIfInBounds_toArray, List.set_cons_zero, List.set_cons_succ]))
                          refine walk3_one ?_
                          (refine runN_store rfl rfl (by rfl) 53 _ _ rfl _ (planV 1 11 0 (.slice pa pn pc) (.slice qa 0 qc)) rfl rfl _ _ HAC.out infoPlan rfl rfl ?_; intro w8 hM8 t8; have HAC := Lib.hid hM8; have HKB := Lib.hid (t8.keeps HKB.out HKA.out); (try have HA1 := Lib.hid (t8.keeps HA1.out HA1A.out)); have HPW := Lib.hid (HPW.out.set _ HAO.out HAL.out t8); refine ⟨HKB.out, fun hS => ?_⟩; clear hM8 t8; (try simp only [Act.put, List.setIfInBounds_toArray, List.set_cons_zero, List.set_cons_succ]))
                          refine walk3_fin ?_
                          go_wp2_with fail
                          go_meet
                          exact ⟨_, _, _, _, _, _, _, rfl, HAC.out, HPW.out, HA1.out⟩
                      · (have HAL := Lib.hid HPW.out.f.t.size; have HAO := Lib.hid (HPW.out.new _ (Nat.le_refl _)); have HKA := Lib.hid (Nat.ne_of_lt (heap_lt HKB.out)); (try have HA1A := Lib.hid (Nat.ne_of_lt (heap_lt HA1.out))); refine runN_new 13 (fun W => .pointer (some ⟨W.heap.size, 0, none⟩)) (planV 0 0 0 (.slice none 0 0) (.slice none 0 0)) 53 rfl rfl (by rfl) (by intro W; go_simp <;> first | with_reducible rfl | rfl | exact ⟨rfl, rfl⟩) ?_; intro w7 hw7 hM7 hs7 t7; (try have HAC := Lib.hid (t7.keeps HAC.out (fun h => h))); (try have HA1 := Lib.hid (t7.keeps HA1.out (fun h => h))); (try have HROW := Lib.hid (HROW.out.touch t7 (fun _ _ => .inr (fun h => h)))); (try have HZR := Lib.hid (HZR.out.touch t7 (fun _ _ => .inr (fun h => h)))); have HKB := Lib.hid (t7.keeps HKB.out (fun h => h)); have HPW := Lib.hid (HPW.out.still t7); have HAC := Lib.hid hM7; refine ⟨HKB.out, fun _ => ?_⟩; clear hw7 hs7 hM7 t7; (try simp only [Act.put, List.setIfInBounds_toArray, List.set_cons_zero, List.set_cons_succ]))
                        refine walk3_one ?_
                        (refine runN_call 94 27 _ _ _ (HMK2.out _ _ HZR.out) rfl rfl rfl (by rfl) rfl (enter_made _ _ _ _ _) ?_; rintro e wb ⟨ma, mc, rfl, hfb⟩; have tb := hfb.2; (try have HAC := Lib.hid (tb.keeps HAC.out (fun h => h))); (try have HA1 := Lib.hid (tb.keeps HA1.out (fun h => h))); (try have HROW := Lib.hid (HROW.out.touch tb (fun _ _ => .inr (fun h => h)))); (try have HZR := Lib.hid (HZR.out.touch tb (fun _ _ => .inr (fun h => h)))); have HKB := Lib.hid (tb.keeps HKB.out (fun h => h)); have HPW := Lib.hid (HPW.out.still tb); have HROW := Lib.hid hfb.row'.2; refine ⟨_, rfl, HKB.out, fun hS => ?_⟩; clear tb hfb; (try simp only [Act.put, List.setIfInBounds_toArray, List.set_cons_zero, List.set_cons_succ]))
                        refine walk3_one ?_
                        (refine runN_call 95 18 _ _ _ (HPKT2.out _ _ _ _ HPW.out HROW.out) rfl rfl rfl (by rfl) rfl (enter_packet _ _ _ _ _ _ _) ?_; rintro e wc ⟨pa, pn, pc, qa, qc, rfl, hst⟩; obtain ⟨h', M1, hpm, hpw, hoff⟩ := HPW.out.step hst; have HKO1 := Lib.hid (hoff _ (heap_lt HKB.out) HKO.out); (try have HAO1 := Lib.hid (hoff _ (heap_lt HAC.out) HAO.out)); (try have HAC := Lib.hid ((step_touch hst).keeps HAC.out HAO.out.1)); (try have HA1P := Lib.hid (hoff _ (heap_lt HA1.out) HA1O.out)); (try have HA1 := Lib.hid ((step_touch hst).keeps HA1.out HA1O.out.1)); have HKB := Lib.hid ((step_touch hst).keeps HKB.out HKO.out.1); clear HKO; have HKO := Lib.hid HKO1.out; (try (have HAO2 := Lib.hid HAO1.out; clear HAO; have HAO := Lib.hid HAO2.out; clear HAO1 HAO2)); (try (have HA1Q := Lib.hid HA1P.out; clear HA1O; have HA1O := Lib.hid HA1Q.out; clear HA1P HA1Q)); obtain rfl := List.perm_nil.1 hpm; have HPW := Lib.hid hpw; refine ⟨_, rfl, HKB.out, fun hS => ?_⟩; clear hst hpm hpw hoff HKO1; (try simp only [Act.put, List.setIfInBounds_toArray, List.set_cons_zero, List.set_cons_succ]))
                        refine walk3_one ?_
                        (refine runN_store rfl rfl (by rfl) 53 _ _ rfl _ (planV 1 11 0 (.slice pa pn pc) (.slice qa 0 qc)) rfl rfl _ _ HAC.out infoPlan rfl rfl ?_; intro w8 hM8 t8; have HAC := Lib.hid hM8; have HKB := Lib.hid (t8.keeps HKB.out HKA.out); (try have HA1 := Lib.hid (t8.keeps HA1.out HA1A.out)); have HPW := Lib.hid (HPW.out.set _ HAO.out HAL.out t8); refine ⟨HKB.out, fun hS => ?_⟩; clear hM8 t8; (try simp only [Act.put, List.setIfInBounds_toArray, List.set_cons_zero, List.set_cons_succ]))
                        refine walk3_fin ?_
                        go_wp2_with fail
                        go_meet
                        exact ⟨_, _, _, _, _, _, _, rfl, HAC.out, HPW.out, HA1.out⟩
                    · (have HAL := Lib.hid HPW.out.f.t.size; have HAO := Lib.hid (HPW.out.new _ (Nat.le_refl _)); have HKA := Lib.hid (Nat.ne_of_lt (heap_lt HKB.out)); (try have HA1A := Lib.hid (Nat.ne_of_lt (heap_lt HA1.out))); refine runN_new 13 (fun W => .pointer (some ⟨W.heap.size, 0, none⟩)) (planV 0 0 0 (.slice none 0 0) (.slice none 0 0)) 53 rfl rfl (by rfl) (by intro W; go_simp <;> first | with_reducible rfl | rfl | exact ⟨rfl, rfl⟩) ?_; intro w7 hw7 hM7 hs7 t7; (try have HAC := Lib.hid (t7.keeps HAC.out (fun h => h))); (try have HA1 := Lib.hid (t7.keeps HA1.out (fun h => h))); (try have HROW := Lib.hid (HROW.out.touch t7 (fun _ _ => .inr (fun h => h)))); (try have HZR := Lib.hid (HZR.out.touch t7 (fun _ _ => .inr (fun h => h)))); have HKB := Lib.hid (t7.keeps HKB.out (fun h => h)); have HPW := Lib.hid (HPW.out.still t7); have HAC := Lib.hid hM7; refine ⟨HKB.out, fun _ => ?_⟩; clear hw7 hs7 hM7 t7; (try simp only [Act.put, List.setIfInBounds_toArray, List.set_cons_zero, List.set_cons_succ]))
                      refine walk3_one ?_
                      (refine runN_call 88 9 _ _ _ (HCFG.out _) rfl rfl rfl (by rfl) rfl (enter_config _ _) ?_; rintro e wa ⟨rfl, ta⟩; (try have HAC := Lib.hid (ta.keeps HAC.out (fun h => h))); (try have HA1 := Lib.hid (ta.keeps HA1.out (fun h => h))); (try have HROW := Lib.hid (HROW.out.touch ta (fun _ _ => .inr (fun h => h)))); (try have HZR := Lib.hid (HZR.out.touch ta (fun _ _ => .inr (fun h => h)))); have HKB := Lib.hid (ta.keeps HKB.out (fun h => h)); have HPW := Lib.hid (HPW.out.still ta); refine ⟨_, rfl, HKB.out, fun hS => ?_⟩; clear ta; (try simp only [Act.put, List.setIfInBounds_toArray, List.set_cons_zero, List.set_cons_succ]))
                      refine walk3_one ?_
                      (refine runN_call 94 27 _ _ _ (HMK2.out _ _ HZR.out) rfl rfl rfl (by rfl) rfl (enter_made _ _ _ _ _) ?_; rintro e wb ⟨ma, mc, rfl, hfb⟩; have tb := hfb.2; (try have HAC := Lib.hid (tb.keeps HAC.out (fun h => h))); (try have HA1 := Lib.hid (tb.keeps HA1.out (fun h => h))); (try have HROW := Lib.hid (HROW.out.touch tb (fun _ _ => .inr (fun h => h)))); (try have HZR := Lib.hid (HZR.out.touch tb (fun _ _ => .inr (fun h => h)))); have HKB := Lib.hid (tb.keeps HKB.out (fun h => h)); have HPW := Lib.hid (HPW.out.still tb); have HROW := Lib.hid hfb.row'.2; refine ⟨_, rfl, HKB.out, fun hS => ?_⟩; clear tb hfb; (try simp only [Act.put, List.setIfInBounds_toArray, List.set_cons_zero, List.set_cons_succ]))
                      refine walk3_one ?_
                      (refine runN_call 95 18 _ _ _ (HPKT2.out _ _ _ _ HPW.out HROW.out) rfl rfl rfl (by rfl) rfl (enter_packet _ _ _ _ _ _ _) ?_; rintro e wc ⟨pa, pn, pc, qa, qc, rfl, hst⟩; obtain ⟨h', M1, hpm, hpw, hoff⟩ := HPW.out.step hst; have HKO1 := Lib.hid (hoff _ (heap_lt HKB.out) HKO.out); (try have HAO1 := Lib.hid (hoff _ (heap_lt HAC.out) HAO.out)); (try have HAC := Lib.hid ((step_touch hst).keeps HAC.out HAO.out.1)); (try have HA1P := Lib.hid (hoff _ (heap_lt HA1.out) HA1O.out)); (try have HA1 := Lib.hid ((step_touch hst).keeps HA1.out HA1O.out.1)); have HKB := Lib.hid ((step_touch hst).keeps HKB.out HKO.out.1); clear HKO; have HKO := Lib.hid HKO1.out; (try (have HAO2 := Lib.hid HAO1.out; clear HAO; have HAO := Lib.hid HAO2.out; clear HAO1 HAO2)); (try (have HA1Q := Lib.hid HA1P.out; clear HA1O; have HA1O := Lib.hid HA1Q.out; clear HA1P HA1Q)); obtain rfl := List.perm_nil.1 hpm; have HPW := Lib.hid hpw; refine ⟨_, rfl, HKB.out, fun hS => ?_⟩; clear hst hpm hpw hoff HKO1; (try simp only [Act.put, List.setIfInBounds_toArray, List.set_cons_zero, List.set_cons_succ]))
                      refine walk3_one ?_
                      (refine runN_store rfl rfl (by rfl) 53 _ _ rfl _ (planV 1 11 0 (.slice pa pn pc) (.slice qa 0 qc)) rfl rfl _ _ HAC.out infoPlan rfl rfl ?_; intro w8 hM8 t8; have HAC := Lib.hid hM8; have HKB := Lib.hid (t8.keeps HKB.out HKA.out); (try have HA1 := Lib.hid (t8.keeps HA1.out HA1A.out)); have HPW := Lib.hid (HPW.out.set _ HAO.out HAL.out t8); refine ⟨HKB.out, fun hS => ?_⟩; clear hM8 t8; (try simp only [Act.put, List.setIfInBounds_toArray, List.set_cons_zero, List.set_cons_succ]))
                      refine walk3_fin ?_
                      go_wp2_with fail
                      go_meet
                      exact ⟨_, _, _, _, _, _, _, rfl, HAC.out, HPW.out, HA1.out⟩
                  · (have HAL := Lib.hid HPW.out.f.t.size; have HAO := Lib.hid (HPW.out.new _ (Nat.le_refl _)); have HKA := Lib.hid (Nat.ne_of_lt (heap_lt HKB.out)); (try have HA1A := Lib.hid (Nat.ne_of_lt (heap_lt HA1.out))); refine runN_new 13 (fun W => .pointer (some ⟨W.heap.size, 0, none⟩)) (planV 0 0 0 (.slice none 0 0) (.slice none 0 0)) 53 rfl rfl (by rfl) (by intro W; go_simp <;> first | with_reducible rfl | rfl | exact ⟨rfl, rfl⟩) ?_; intro w7 hw7 hM7 hs7 t7; (try have HAC := Lib.hid (t7.keeps HAC.out (fun h => h))); (try have HA1 := Lib.hid (t7.keeps HA1.out (fun h => h))); (try have HROW := Lib.hid (HROW.out.touch t7 (fun _ _ => .inr (fun h => h)))); (try have HZR := Lib.hid (HZR.out.touch t7 (fun _ _ => .inr (fun h => h)))); have HKB := Lib.hid (t7.keeps HKB.out (fun h => h)); have HPW := Lib.hid (HPW.out.still t7); have HAC := Lib.hid hM7; refine ⟨HKB.out, fun _ => ?_⟩; clear hw7 hs7 hM7 t7; (try simp only [Act.put, List.setIfInBounds_toArray, List.set_cons_zero, List.set_cons_succ]))
                    refine walk3_two ?_ ?_
                    · (refine runN_call 88 9 _ _ _ (HCFG.out _) rfl rfl rfl (by rfl) rfl (enter_config _ _) ?_; rintro e wa ⟨rfl, ta⟩; (try have HAC := Lib.hid (ta.keeps HAC.out (fun h => h))); (try have HA1 := Lib.hid (ta.keeps HA1.out (fun h => h))); (try have HROW := Lib.hid (HROW.out.touch ta (fun _ _ => .inr (fun h => h)))); (try have HZR := Lib.hid (HZR.out.touch ta (fun _ _ => .inr (fun h => h)))); have HKB := Lib.hid (ta.keeps HKB.out (fun h => h)); have HPW := Lib.hid (HPW.out.still ta); refine ⟨_, rfl, HKB.out, fun hS => ?_⟩; clear ta; (try simp only [Act.put, List.setIfInBounds_toArray, List.set_cons_zero, List.set_cons_succ]))
                      refine walk3_one ?_
                      (refine runN_new 93 (fun W => .slice (some ⟨W.heap.size, 0, none⟩) sz sz) (zB sz) 5 rfl rfl (by rfl) (by intro W; have hz := HMB.out W; go_simp <;> first | with_reducible rfl | rfl | exact ⟨rfl, rfl⟩) ?_; intro w6 hw6 hM6 hs6 t6; (try have HAC := Lib.hid (t6.keeps HAC.out (fun h => h))); (try have HA1 := Lib.hid (t6.keeps HA1.out (fun h => h))); (try have HROW := Lib.hid (HROW.out.touch t6 (fun _ _ => .inr (fun h => h)))); (try have HZR := Lib.hid (HZR.out.touch t6 (fun _ _ => .inr (fun h => h)))); have HKB := Lib.hid (t6.keeps HKB.out (fun h => h)); have HPW := Lib.hid (HPW.out.still t6); have HZR := Lib.hid (hw6 ▸ row_zB _ sz HSZB.out); refine ⟨HKB.out, fun _ => ?_⟩; clear hw6 hs6 hM6 t6; (try simp only [Act.put, List.setIfInBounds_toArray, List.set_cons_zero, List.set_cons_succ]))
                      refine walk3_one ?_
                      (refine runN_call 94 27 _ _ _ (HMK2.out _ _ HZR.out) rfl rfl rfl (by rfl) rfl (enter_made _ _ _ _ _) ?_; rintro e wb ⟨ma, mc, rfl, hfb⟩; have tb := hfb.2; (try have HAC := Lib.hid (tb.keeps HAC.out (fun h => h))); (try have HA1 := Lib.hid (tb.keeps HA1.out (fun h => h))); (try have HROW := Lib.hid (HROW.out.touch tb (fun _ _ => .inr (fun h => h)))); (try have HZR := Lib.hid (HZR.out.touch tb (fun _ _ => .inr (fun h => h)))); have HKB := Lib.hid (tb.keeps HKB.out (fun h => h)); have HPW := Lib.hid (HPW.out.still tb); have HROW := Lib.hid hfb.row'.2; refine ⟨_, rfl, HKB.out, fun hS => ?_⟩; clear tb hfb; (try simp only [Act.put, List.setIfInBounds_toArray, List.set_cons_zero, List.set_cons_succ]))
                      refine walk3_one ?_
                      (refine runN_call 95 18 _ _ _ (HPKT2.out _ _ _ _ HPW.out HROW.out) rfl rfl rfl (by rfl) rfl (enter_packet _ _ _ _ _ _ _) ?_; rintro e wc ⟨pa, pn, pc, qa, qc, rfl, hst⟩; obtain ⟨h', M1, hpm, hpw, hoff⟩ := HPW.out.step hst; have HKO1 := Lib.hid (hoff _ (heap_lt HKB.out) HKO.out); (try have HAO1 := Lib.hid (hoff _ (heap_lt HAC.out) HAO.out)); (try have HAC := Lib.hid ((step_touch hst).keeps HAC.out HAO.out.1)); (try have HA1P := Lib.hid (hoff _ (heap_lt HA1.out) HA1O.out)); (try have HA1 := Lib.hid ((step_touch hst).keeps HA1.out HA1O.out.1)); have HKB := Lib.hid ((step_touch hst).keeps HKB.out HKO.out.1); clear HKO; have HKO := Lib.hid HKO1.out; (try (have HAO2 := Lib.hid HAO1.out; clear HAO; have HAO := Lib.hid HAO2.out; clear HAO1 HAO2)); (try (have HA1Q := Lib.hid HA1P.out; clear HA1O; have HA1O := Lib.hid HA1Q.out; clear HA1P HA1Q)); obtain rfl := List.perm_nil.1 hpm; have HPW := Lib.hid hpw; refine ⟨_, rfl, HKB.out, fun hS => ?_⟩; clear hst hpm hpw hoff HKO1; (try simp only [Act.put, List.setIfInBounds_toArray, List.set_cons_zero, List.set_cons_succ]))
                      refine walk3_one ?_
                      (refine runN_store rfl rfl (by rfl) 53 _ _ rfl _ (planV 1 11 0 (.slice pa pn pc) (.slice qa 0 qc)) rfl rfl _ _ HAC.out infoPlan rfl rfl ?_; intro w8 hM8 t8; have HAC := Lib.hid hM8; have HKB := Lib.hid (t8.keeps HKB.out HKA.out); (try have HA1 := Lib.hid (t8.keeps HA1.out HA1A.out)); have HPW := Lib.hid (HPW.out.set _ HAO.out HAL.out t8); refine ⟨HKB.out, fun hS => ?_⟩; clear hM8 t8; (try simp only [Act.put, List.setIfInBounds_toArray, List.set_cons_zero, List.set_cons_succ]))
                      refine walk3_fin ?_
                      go_wp2_with fail
                      go_meet
                      exact ⟨_, _, _, _, _, _, _, rfl, HAC.out, HPW.out, HA1.out⟩
                    · (refine runN_new 93 (fun W => .slice (some ⟨W.heap.size, 0, none⟩) sz sz) (zB sz) 5 rfl rfl (by rfl) (by intro W; have hz := HMB.out W; go_simp <;> first | with_reducible rfl | rfl | exact ⟨rfl, rfl⟩) ?_; intro w6 hw6 hM6 hs6 t6; (try have HAC := Lib.hid (t6.keeps HAC.out (fun h => h))); (try have HA1 := Lib.hid (t6.keeps HA1.out (fun h => h))); (try have HROW := Lib.hid (HROW.out.touch t6 (fun _ _ => .inr (fun h => h)))); (try have HZR := Lib.hid (HZR.out.touch t6 (fun _ _ => .inr (fun h => h)))); have HKB := Lib.hid (t6.keeps HKB.out (fun h => h)); have HPW := Lib.hid (HPW.out.still t6); have HZR := Lib.hid (hw6 ▸ row_zB _ sz HSZB.out); refine ⟨HKB.out, fun _ => ?_⟩; clear hw6 hs6 hM6 t6; (try simp only [Act.put, List.setIfInBounds_toArray, List.set_cons_zero, List.set_cons_succ]))
                      refine walk3_one ?_
                      (refine runN_call 88 9 _ _ _ (HCFG.out _) rfl rfl rfl (by rfl) rfl (enter_config _ _) ?_; rintro e wa ⟨rfl, ta⟩; (try have HAC := Lib.hid (ta.keeps HAC.out (fun h => h))); (try have HA1 := Lib.hid (ta.keeps HA1.out (fun h => h))); (try have HROW := Lib.hid (HROW.out.touch ta (fun _ _ => .inr (fun h => h)))); (try have HZR := Lib.hid (HZR.out.touch ta (fun _ _ => .inr (fun h => h)))); have HKB := Lib.hid (ta.keeps HKB.out (fun h => h)); have HPW := Lib.hid (HPW.out.still ta); refine ⟨_, rfl, HKB.out, fun hS => ?_⟩; clear ta; (try simp only [Act.put, List.setIfInBounds_toArray, List.set_cons_zero, List.set_cons_succ]))
                      refine walk3_one ?_
                      (refine runN_call 94 27 _ _ _ (HMK2.out _ _ HZR.out) rfl rfl rfl (by rfl) rfl (enter_made _ _ _ _ _) ?_; rintro e wb ⟨ma, mc, rfl, hfb⟩; have tb := hfb.2; (try have HAC := Lib.hid (tb.keeps HAC.out (fun h => h))); (try have HA1 := Lib.hid (tb.keeps HA1.out (fun h => h))); (try have HROW := Lib.hid (HROW.out.touch tb (fun _ _ => .inr (fun h => h)))); (try have HZR := Lib.hid (HZR.out.touch tb (fun _ _ => .inr (fun h => h)))); have HKB := Lib.hid (tb.keeps HKB.out (fun h => h)); have HPW := Lib.hid (HPW.out.still tb); have HROW := Lib.hid hfb.row'.2; refine ⟨_, rfl, HKB.out, fun hS => ?_⟩; clear tb hfb; (try simp only [Act.put, List.setIfInBounds_toArray, List.set_cons_zero, List.set_cons_succ]))
                      refine walk3_one ?_
                      (refine runN_call 95 18 _ _ _ (HPKT2.out _ _ _ _ HPW.out HROW.out) rfl rfl rfl (by rfl) rfl (enter_packet _ _ _ _ _ _ _) ?_; rintro e wc ⟨pa, pn, pc, qa, qc, rfl, hst⟩; obtain ⟨h', M1, hpm, hpw, hoff⟩ := HPW.out.step hst; have HKO1 := Lib.hid (hoff _ (heap_lt HKB.out) HKO.out); (try have HAO1 := Lib.hid (hoff _ (heap_lt HAC.out) HAO.out)); (try have HAC := Lib.hid ((step_touch hst).keeps HAC.out HAO.out.1)); (try have HA1P := Lib.hid (hoff _ (heap_lt HA1.out) HA1O.out)); (try have HA1 := Lib.hid ((step_touch hst).keeps HA1.out HA1O.out.1)); have HKB := Lib.hid ((step_touch hst).keeps HKB.out HKO.out.1); clear HKO; have HKO := Lib.hid HKO1.out; (try (have HAO2 := Lib.hid HAO1.out; clear HAO; have HAO := Lib.hid HAO2.out; clear HAO1 HAO2)); (try (have HA1Q := Lib.hid HA1P.out; clear HA1O; have HA1O := Lib.hid HA1Q.out; clear HA1P HA1Q)); obtain rfl := List.perm_nil.1 hpm; have HPW := Lib.hid hpw; refine ⟨_, rfl, HKB.out, fun hS => ?_⟩; clear hst hpm hpw hoff HKO1; (try simp only [Act.put, List.setIfInBounds_toArray, List.set_cons_zero, List.set_cons_succ]))
                      refine walk3_one ?_
                      (refine runN_store rfl rfl (by rfl) 53 _ _ rfl _ (planV 1 11 0 (.slice pa pn pc) (.slice qa 0 qc)) rfl rfl _ _ HAC.out infoPlan rfl rfl ?_; intro w8 hM8 t8; have HAC := Lib.hid hM8; have HKB := Lib.hid (t8.keeps HKB.out HKA.out); (try have HA1 := Lib.hid (t8.keeps HA1.out HA1A.out)); have HPW := Lib.hid (HPW.out.set _ HAO.out HAL.out t8); refine ⟨HKB.out, fun hS => ?_⟩; clear hM8 t8; (try simp only [Act.put, List.setIfInBounds_toArray, List.set_cons_zero, List.set_cons_succ]))
                      refine walk3_fin ?_
                      go_wp2_with fail
                      go_meet
                      exact ⟨_, _, _, _, _, _, _, rfl, HAC.out, HPW.out, HA1.out⟩
                case rest =>
                  obtain ⟨A2, pa, pn, pc, qa, qc, h', rfl, hA, hP, hA1⟩ := hcut
                  have y1 : wc.cell? ⟨A1, 1, none⟩ = some (.int .i64 7) := cell_of_cells hA1 1
                  have y4 : wc.cell? ⟨A1, 4, none⟩ = some (.slice qa1 0 qc1) := cell_of_cells hA1 4
                  have z1 : wc.cell? ⟨A2, 1, none⟩ = some (.int .i64 11) := cell_of_cells hA 1
                  have z4 : wc.cell? ⟨A2, 4, none⟩ = some (.slice qa 0 qc) := cell_of_cells hA 4
                  have HLN := Lib.hid (flen_any wc g h' 8 100 [] hP.f.q)
                  have HP := Lib.hid hP
                  clear hA hP hA1
                  go_wp2_with (go_at_call 32; (with_reducible refine HLN.out.mono ?_); rintro e w7 ⟨rfl, rfl⟩)
                  try rw [HWK.out]
                  go_roundw
                  · exact HX.out _ _ HP.out
                  · simp only [RowKit.intOf]; omega
        case neg =>
          obtain rfl : len = k := by omega
          have hlI : ¬ (len : Int) < len := by omega
          have HTW := Lib.hid HPW.out.f.t
          clear HPW
          go_wp2_with fail
          refine (awake23 wr).mono ?_
          rintro e w7 ⟨rfl, t7⟩
          have HT7 := Lib.hid (HTW.out.trans t7 (fun _ _ h => h))
          clear t7
          go_wp2_with fail
          go_ret
          exact ⟨rfl, HT7.out⟩
open Go.ChangeShapes Go.WideShapes Go.ChangeAt in
set_option maxRecDepth 20000 in
theorem pathDrops_holds : Rows.PathDropsSaid := by
  refine pathDrops.said fun H enc W base v0 v1 d0 d1 p0 p1 h0 h1 => ?_
  obtain ⟨a, cap, ks, hv, hr, hok⟩ := h0.tr.tups
  obtain ⟨a', len', cap', rfl⟩ := okWide_slice Tryz.underlying87 h0.ok
  simp only [Value.cells, List.cons.injEq, Value.slice.injEq, and_true] at hv
  obtain ⟨rfl, rfl, rfl⟩ := hv
  obtain ⟨y, rfl, _⟩ := h1.i64 Tryz.underlying3
  exact (drops23_walk _ _ _ ks y W hr hok).mono fun e w' h => ⟨h.1, h.2.below (fun _ _ h => h.elim) (Nat.le_refl _)⟩
end Go.Proofs.YtpjdcgjoepjmcaaGreat
