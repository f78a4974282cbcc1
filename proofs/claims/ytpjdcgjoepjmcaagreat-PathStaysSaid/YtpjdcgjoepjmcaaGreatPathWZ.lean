import Derived.Test.YtpjdcgjoepjmcaaGreatPathAZ
import Derived.Test.YtpjdcgjoepjmcaaGreatHFZ
import Derived.Deep.DeepCutAuto
set_option linter.unusedVariables false
set_option linter.unusedSimpArgs false
namespace Go.Proofs.YtpjdcgjoepjmcaaGreat
open Go.RowKit

theorem PW.made {w w1 w2 : World} {g : Nat} {h : FH} {most idle : Int} {M : List FlD} (p : FN w w1 g h most idle M) {C n : Nat} {bs : List BkD} {T : List Int} {ab : Option Addr} {lb cb G m : Nat} (hn : 0 < n) (hC : C < w1.heap.size) (hCf : ¬ footF g h C) (hCw : w.heap.size ≤ C) (t : Touch w1 w2 (fun k => k = C))
    (hc : w2.heap[C]? = some (.cells (chC n ab lb cb (some ⟨G, 0, none⟩) n n m) 100 (0, 0))) (hk : RowK w2 ab lb cb bs) (hi : RowI w2 (some ⟨G, 0, none⟩) n n T) (hb : ∀ x, ab = some x → w1.heap.size ≤ x.block) (hG : w1.heap.size ≤ G) :
    PW w w2 g h most idle M C n bs T ab lb cb G m := by
  refine ⟨p.touch t (fun k hk e => hCf (e ▸ hk)) (fun k hk e => by have e : k = C := e; omega), ⟨hc, hk, hi⟩, ⟨hCf, .inr (fun x hx e => by have := p.q.footlt _ e; have := hb x hx; omega), fun e => by have := p.q.footlt _ e; omega⟩, heap_lt hc, ?_, ?_⟩
  · by_cases h0 : lb = 0
    · exact .inl h0
    · exact .inr (fun x hx => (hk.toS.lt x hx).resolve_left h0)
  · rcases hi.2.2.2.2 with h0 | ⟨b, off, ha, hlt, -⟩
    · omega
    · cases ha; exact hlt
theorem pick_one {n : Nat} (hp : Prm n) (b : BkD) (hg : gmay [b] = true) (t : TupD) (hm : mayTB t = true) : pickO [b] (tabF [b] n) n t = some b := by
  have h3 := hp.lo
  have hl : (tabF [b] n).length = n := tab_len hp
  have hlt : hashF t % n < (tabF [b] n).length := by rw [hl]; exact Nat.mod_lt _ (by omega)
  obtain ⟨c, hc, hid⟩ := tab_mem hp hg (by simp) _ (List.getElem_mem hlt)
  obtain rfl := List.mem_singleton.1 hc
  unfold pickO
  rw [if_pos hm, List.getD_eq_getElem?_getD, List.getElem?_eq_getElem hlt]
  simp only [Option.getD_some]
  rw [hid]
  unfold findF
  rw [List.find?_cons]
  simp
theorem back_one {n : Nat} (hp : Prm n) (b : BkD) (hg : gmay [b] = true) (M : List FlD) (t : TupD) (hm : mayTB t = true) : backF [b] (tabF [b] n) n M t = some b := by
  unfold backF
  split
  · rename_i c hc
    split at hc
    · unfold findF at hc
      rw [← hc]
      have := List.mem_of_find?_eq_some hc
      obtain rfl := List.mem_singleton.1 this
      exact hc
    · cases hc
  · exact pick_one hp b hg t hm
def known23 : TupD := ⟨1, 2, 6, 3, 4⟩
theorem known23_ok : TupOk known23 := by
  have z : (0 : Int) ≤ 4294967295 := by decide
  exact ⟨⟨by decide, by decide⟩, ⟨by decide, by decide⟩, ⟨by decide, by decide⟩, ⟨by decide, by decide⟩, ⟨by decide, by decide⟩⟩
def bk23 : BkD := ⟨4, 9, 1⟩
theorem gmay23 : gmay [bk23] = true := by decide +kernel
theorem may23 : mayTB known23 = true := by decide +kernel
def fl23 : FlD := ⟨known23, 4, 1, 5⟩
theorem pkt23 (W : World) (g : Nat) (h : FH) (d : FS W g h 2 20 []) (C : Nat) (ab : Option Addr) (lb cb G m : Nat) (c : ChP W C 13 [bk23] (tabF [bk23] 13) ab lb cb G m) (ma : Option Addr) (mc : Nat) (hr : RowB W ma 40 mc (madeF (kOf known23) 9 0 [])) :
    Calls Tryz.prog 18 #[.agg (cfg23 2), .pointer (some ⟨g, 0, none⟩), .pointer (some ⟨C, 0, none⟩), .int .i64 1, .int .i64 5, .slice ma 40 mc] W fun e w' => ∃ pa pn pc qa qc, e = .returned (.agg (planV 2 0 4 (.slice pa pn pc) (.slice qa 1 qc))) ∧ RowB w' pa pn pc (wrapF (madeF (kOf known23) 9 0 []) 168364297 9) ∧ FStep W w' g h 2 20 [fl23] := by
  refine (packet_any 168364297 13 2 20 1500 200 20000 3 1 5 W g h 2 20 [] d C 13 [bk23] (tabF [bk23] 13) ab lb cb G m c (by omega) (by omega) ⟨by decide, by decide⟩ (fun b hb => by obtain rfl := List.mem_singleton.1 hb; exact ⟨by decide, by decide⟩) ma 40 mc _ hr).mono ?_
  intro e w' hp
  rw [pk_made known23 known23_ok may23 9 0 [] (by simp) (fun x hx => by cases hx) (by decide) 168364297 1500 1 5 2 (by decide) [bk23] (tabF [bk23] 13) 13 [] ⟨by decide, by decide⟩ bk23 (back_one prm13 bk23 gmay23 [] known23 may23)] at hp
  obtain ⟨pa, pn, pc, q, he, hx, ⟨qa, qc, rfl, -, -⟩, hs⟩ := hp
  exact ⟨pa, pn, pc, qa, qc, he, hx, hs⟩
set_option maxRecDepth 20000 in
set_option maxHeartbeats 16000000 in
theorem awake23 (w : World) : Calls Tryz.prog 25 #[] w fun e w' => e = .returned (.bool true) ∧ Touch w w' (fun _ => False) := by
  have HCFG := Lib.hid (fun W => config_any 2 W)
  have HMK : RowKit.Hid (∀ W, Calls Tryz.prog 27 #[.agg (tcs known23), .int .i64 9, .int .i64 0, .slice none 0 0] W fun e w' => ∃ a' cap', e = .returned (.slice a' 40 cap') ∧ FreshB W w' (.slice a' 40 cap') (madeF (kOf known23) 9 0 [])) :=
    Lib.hid (fun W => made_any (kOf known23) (ok_k known23_ok) 9 0 none 0 0 [] W (RowB.nil _ _ _ (by omega)) (by omega) (by simp [isI64]) (by simp [isI64]) 40 (by decide))
  have HPK := Lib.hid pkt23
  go_enter Tryz.func25, Tryz.ntmps25
  go_wp2_with fail
  refine (fnew_any w 2 20).mono ?_
  rintro e w0 ⟨g, h, rfl, q0, t0, f0⟩
  have q0' : FS w0 g h 2 20 [] := q0
  have N0 := Lib.hid (FN.mk q0' t0 f0)
  clear q0 q0' t0 f0
  go_wp2_with fail
  refine (new_any 13 w0 prm13).mono ?_
  rintro e w1 ⟨C, G0, rfl, hc, hC, hi, t1⟩
  have N1 := Lib.hid (N0.out.still t1)
  have HC := Lib.hid hc
  have HCw := Lib.hid hC
  have HCF : RowKit.Hid (¬ footF g h C) := Lib.hid (fun e => by have := N0.out.q.footlt _ e; omega)
  have HK : RowKit.Hid (RowK (w1.alloc (.cells #[.int .i64 4, .int .u32 9, .int .i64 1] 70)) (some ⟨w1.heap.size, 0, none⟩) 1 1 [bk23]) := Lib.hid
    ((OwnS.lit w1 w1.heap.size (Nat.le_refl _) 70 3 1 ([bk23].map BkD.cells) _ rfl rfl (by simp [bk23, BkD.cells]) (by omega)).row').2.1
  clear hi t1 hc hC
  go_wp2_with fail
  have t2 := (Touch.refl w1 (fun _ => False)).alloc (.cells #[.int .i64 4, .int .u32 9, .int .i64 1] 70)
  have hCl : C < w1.heap.size := heap_lt HC.out
  have N2 := Lib.hid (N1.out.still t2)
  refine (set_out 13 .nilFunc [bk23] C _ _ _ _ _ _ 0 _ 1 1 [bk23] _ prm13 (by omega) (t2.keeps HC.out (fun h => h)) HK.out gmay23 (fun x hx => .inr (fun h => by cases hx; simp at h; omega)) (fun W t => without_nil _ 1 1 [bk23] W (HK.out.touch t (fun _ _ => .inr (fun h => h))) (by omega))).mono ?_
  rintro e w3 ⟨rfl, a3, c3, G3, hc3, hk3, hi3, hb3, hG3, t3⟩
  have HPW : RowKit.Hid (PW w w3 g h 2 20 [] C 13 [bk23] (tabF [bk23] 13) a3 1 c3 G3 1) := Lib.hid (PW.made N2.out (by omega) (Nat.lt_of_lt_of_le hCl t2.size) HCF.out (Nat.le_trans N0.out.t.size HCw.out) t3 hc3 hk3 hi3 hb3 hG3)
  clear t2 t3 hc3 hk3 hi3 hb3 hG3 hCl HK HC N0 N1 N2
  obtain ⟨W4, hW4⟩ : ∃ W, w3.alloc (.cells (tcs known23) 37) = W := ⟨_, rfl⟩
  obtain ⟨KB, hKB⟩ : ∃ B, w3.heap.size = B := ⟨_, rfl⟩
  have g4 : W4.heap[w3.heap.size]? = some (.cells (tcs known23) 37 (0, 0)) := hW4 ▸ heap_alloc_new ..
  have t4 : Touch w3 W4 (fun _ => False) := hW4 ▸ (Touch.refl w3 _).alloc _
  have HKO := Lib.hid (HPW.out.new w3.heap.size (Nat.le_refl _)).1
  have HPW := Lib.hid (HPW.out.still t4)
  have HW4 := Lib.hid hW4
  have HKE := Lib.hid hKB
  rw [hKB] at g4
  have hko := HKO.out
  rw [hKB] at hko
  have HKO := Lib.hid hko
  have HKB := Lib.hid g4
  simp only [tcs, known23] at HW4
  clear g4 t4 hW4 hKB hko
  have HPKT : RowKit.Hid (∀ (W : World) (h1 : FH) (ma : Option Addr) (mc : Nat), PW w W g h1 2 20 [] C 13 [bk23] (tabF [bk23] 13) a3 1 c3 G3 1 → RowB W ma 40 mc (madeF (kOf known23) 9 0 []) → _) := Lib.hid (fun W h1 ma mc p r => HPK.out W g h1 p.f.q C a3 1 c3 G3 1 p.c ma mc r)
  simp only [cfg23, cfgC, tcs, known23] at HCFG HMK HPKT
  go_upto_region 4 with (fail)
  rw [HW4.out, HKE.out]
  go_cut [4] (fun s4 wx => ∃ AC pa pn pc qa qc h', s4 = .pointer (some ⟨AC, 0, none⟩) ∧ wx.heap[AC]? = some (.cells (planV 2 0 4 (.slice pa pn pc) (.slice qa 1 qc)) 53 (0, 0)) ∧ PW w wx g h' 2 20 [fl23] C 13 [bk23] (tabF [bk23] 13) a3 1 c3 G3 1)
  case first =>
    have HPW := Lib.hid (HPW.out.still (Touch.refl W4 (fun _ => False)).drew)
    have HKB : RowKit.Hid (W4.drew.heap[KB]? = some (.cells (tcs known23) 37 (0, 0))) := Lib.hid HKB.out
    go_wp2_with fail
    have hS := HKB.out
    refine wp_region_tree (fun w' => w'.heap[KB]? = some (.cells (tcs known23) 37 (0, 0))) (.take 1 (.take 2 (.take 3 (.two 0 6 (.two 4 6 (.two 5 6 (.one 6 (.one 7 .fin)) (.one 5 (.one 7 .fin))) (.one 4 (.one 5 (.one 7 .fin)))) (.one 0 (.one 4 (.one 5 (.one 7 .fin)))))))) (by kernel_rfl) (by kernel_rfl) (by kernel_rfl) (by kernel_rfl) hS ?_
    refine walkT_take ?_
    (refine takeN_take (v := ?_) (some 13) rfl rfl (fun _ _ _ h => h) (by rfl) ?_ ?_; rotate_left; (focus (intro w' hw'; go_simp; (try with_reducible rfl))); (try simp only [Act.put, List.setIfInBounds_toArray, List.set_cons_zero, List.set_cons_succ]))
    refine walkT_take ?_
    (refine takeN_take (v := ?_) (some 14) rfl rfl (fun _ _ _ h => h) (by rfl) ?_ ?_; rotate_left; (focus (intro w' hw'; go_simp; (try with_reducible rfl))); (try simp only [Act.put, List.setIfInBounds_toArray, List.set_cons_zero, List.set_cons_succ]))
    refine walkT_take ?_
    (refine takeN_row (some 15) rfl rfl 37 (.tmp 3) rfl (KB) rfl _ _ _ _ (fun w' h => h) Tryz.underlying37 rfl infoT (fun _ _ _ h => h) (by rfl) ?_; (try simp only [Act.put, List.setIfInBounds_toArray, List.set_cons_zero, List.set_cons_succ]))
    refine walkT_two ?_ ?_
    · (refine runN_call 12 9 _ _ _ (HCFG.out _) rfl rfl rfl (by rfl) rfl (enter_config _ _) ?_; rintro e wa ⟨rfl, ta⟩; (try have HAC := Lib.hid (ta.keeps HAC.out (fun h => h))); (try have HROW := Lib.hid (HROW.out.touch ta (fun _ _ => .inr (fun h => h)))); have HKB := Lib.hid (ta.keeps HKB.out (fun h => h)); have HPW := Lib.hid (HPW.out.still ta); refine ⟨_, rfl, HKB.out, fun hS => ?_⟩; clear ta; (try simp only [Act.put, List.setIfInBounds_toArray, List.set_cons_zero, List.set_cons_succ]))
      refine walkT_two ?_ ?_
      · (refine runN_call 16 27 _ _ _ (HMK.out _) rfl rfl rfl (by rfl) rfl (enter_made _ _ _ _ _) ?_; rintro e wb ⟨ma, mc, rfl, hfb⟩; have tb := hfb.2; (try have HAC := Lib.hid (tb.keeps HAC.out (fun h => h))); (try have HROW := Lib.hid (HROW.out.touch tb (fun _ _ => .inr (fun h => h)))); have HKB := Lib.hid (tb.keeps HKB.out (fun h => h)); have HPW := Lib.hid (HPW.out.still tb); have HROW := Lib.hid hfb.row'.2; refine ⟨_, rfl, HKB.out, fun hS => ?_⟩; clear tb hfb; (try simp only [Act.put, List.setIfInBounds_toArray, List.set_cons_zero, List.set_cons_succ]))
        refine walkT_two ?_ ?_
        · (refine runN_call 17 18 _ _ _ (HPKT.out _ _ _ _ HPW.out HROW.out) rfl rfl rfl (by rfl) rfl (enter_packet _ _ _ _ _ _ _) ?_; rintro e wc ⟨pa, pn, pc, qa, qc, rfl, hpr, hst⟩; obtain ⟨h', M1, hpm, hpw, hoff⟩ := HPW.out.step hst; (try have HAO := Lib.hid (hoff _ (heap_lt HAC.out) HAO.out)); (try have HAC := Lib.hid ((step_touch hst).keeps HAC.out HAP.out)); have HKB := Lib.hid ((step_touch hst).keeps HKB.out HKO.out); obtain rfl := List.perm_singleton.1 hpm; have HPW := Lib.hid hpw; refine ⟨_, rfl, HKB.out, fun hS => ?_⟩; clear hst hpr hpm hpw hoff; (try simp only [Act.put, List.setIfInBounds_toArray, List.set_cons_zero, List.set_cons_succ]))
          refine walkT_one ?_
          (have HAL := Lib.hid HPW.out.f.t.size; have HAO := Lib.hid (HPW.out.new _ (Nat.le_refl _)); have HAP := Lib.hid HAO.out.1; have HKA := Lib.hid (Nat.ne_of_lt (heap_lt HKB.out)); refine runN_new 4 (fun W => .pointer (some ⟨W.heap.size, 0, none⟩)) (planV 0 0 0 (.slice none 0 0) (.slice none 0 0)) 53 rfl rfl (by rfl) (by intro W; go_simp <;> first | with_reducible rfl | rfl | exact ⟨rfl, rfl⟩) ?_; intro w7 hw7 hM7 hs7 t7; (try have HAC := Lib.hid (t7.keeps HAC.out (fun h => h))); (try have HROW := Lib.hid (HROW.out.touch t7 (fun _ _ => .inr (fun h => h)))); have HKB := Lib.hid (t7.keeps HKB.out (fun h => h)); have HPW := Lib.hid (HPW.out.still t7); have HAC := Lib.hid hM7; refine ⟨HKB.out, fun _ => ?_⟩; clear hw7 hs7 hM7 t7; (try simp only [Act.put, List.setIfInBounds_toArray, List.set_cons_zero, List.set_cons_succ]))
          refine walkT_one ?_
          (refine runN_store rfl rfl (by rfl) 53 _ _ rfl _ (planV 2 0 4 (.slice pa pn pc) (.slice qa 1 qc)) rfl rfl _ _ HAC.out infoPlan rfl rfl ?_; intro w8 hM8 t8; have HAC := Lib.hid hM8; have HKB := Lib.hid (t8.keeps HKB.out HKA.out); have HPW := Lib.hid (HPW.out.set _ HAO.out HAL.out t8); refine ⟨HKB.out, fun hS => ?_⟩; clear hM8 t8; (try simp only [Act.put, List.setIfInBounds_toArray, List.set_cons_zero, List.set_cons_succ]))
          refine walkT_fin ?_
          go_wp2_with fail
          go_meet
          exact ⟨_, _, _, _, _, _, _, rfl, HAC.out, HPW.out⟩
        · (have HAL := Lib.hid HPW.out.f.t.size; have HAO := Lib.hid (HPW.out.new _ (Nat.le_refl _)); have HAP := Lib.hid HAO.out.1; have HKA := Lib.hid (Nat.ne_of_lt (heap_lt HKB.out)); refine runN_new 4 (fun W => .pointer (some ⟨W.heap.size, 0, none⟩)) (planV 0 0 0 (.slice none 0 0) (.slice none 0 0)) 53 rfl rfl (by rfl) (by intro W; go_simp <;> first | with_reducible rfl | rfl | exact ⟨rfl, rfl⟩) ?_; intro w7 hw7 hM7 hs7 t7; (try have HAC := Lib.hid (t7.keeps HAC.out (fun h => h))); (try have HROW := Lib.hid (HROW.out.touch t7 (fun _ _ => .inr (fun h => h)))); have HKB := Lib.hid (t7.keeps HKB.out (fun h => h)); have HPW := Lib.hid (HPW.out.still t7); have HAC := Lib.hid hM7; refine ⟨HKB.out, fun _ => ?_⟩; clear hw7 hs7 hM7 t7; (try simp only [Act.put, List.setIfInBounds_toArray, List.set_cons_zero, List.set_cons_succ]))
          refine walkT_one ?_
          (refine runN_call 17 18 _ _ _ (HPKT.out _ _ _ _ HPW.out HROW.out) rfl rfl rfl (by rfl) rfl (enter_packet _ _ _ _ _ _ _) ?_; rintro e wc ⟨pa, pn, pc, qa, qc, rfl, hpr, hst⟩; obtain ⟨h', M1, hpm, hpw, hoff⟩ := HPW.out.step hst; (try have HAO := Lib.hid (hoff _ (heap_lt HAC.out) HAO.out)); (try have HAC := Lib.hid ((step_touch hst).keeps HAC.out HAP.out)); have HKB := Lib.hid ((step_touch hst).keeps HKB.out HKO.out); obtain rfl := List.perm_singleton.1 hpm; have HPW := Lib.hid hpw; refine ⟨_, rfl, HKB.out, fun hS => ?_⟩; clear hst hpr hpm hpw hoff; (try simp only [Act.put, List.setIfInBounds_toArray, List.set_cons_zero, List.set_cons_succ]))
          refine walkT_one ?_
          (refine runN_store rfl rfl (by rfl) 53 _ _ rfl _ (planV 2 0 4 (.slice pa pn pc) (.slice qa 1 qc)) rfl rfl _ _ HAC.out infoPlan rfl rfl ?_; intro w8 hM8 t8; have HAC := Lib.hid hM8; have HKB := Lib.hid (t8.keeps HKB.out HKA.out); have HPW := Lib.hid (HPW.out.set _ HAO.out HAL.out t8); refine ⟨HKB.out, fun hS => ?_⟩; clear hM8 t8; (try simp only [Act.put, List.setIfInBounds_toArray, List.set_cons_zero, List.set_cons_succ]))
          refine walkT_fin ?_
          go_wp2_with fail
          go_meet
          exact ⟨_, _, _, _, _, _, _, rfl, HAC.out, HPW.out⟩
      · (have HAL := Lib.hid HPW.out.f.t.size; have HAO := Lib.hid (HPW.out.new _ (Nat.le_refl _)); have HAP := Lib.hid HAO.out.1; have HKA := Lib.hid (Nat.ne_of_lt (heap_lt HKB.out)); refine runN_new 4 (fun W => .pointer (some ⟨W.heap.size, 0, none⟩)) (planV 0 0 0 (.slice none 0 0) (.slice none 0 0)) 53 rfl rfl (by rfl) (by intro W; go_simp <;> first | with_reducible rfl | rfl | exact ⟨rfl, rfl⟩) ?_; intro w7 hw7 hM7 hs7 t7; (try have HAC := Lib.hid (t7.keeps HAC.out (fun h => h))); (try have HROW := Lib.hid (HROW.out.touch t7 (fun _ _ => .inr (fun h => h)))); have HKB := Lib.hid (t7.keeps HKB.out (fun h => h)); have HPW := Lib.hid (HPW.out.still t7); have HAC := Lib.hid hM7; refine ⟨HKB.out, fun _ => ?_⟩; clear hw7 hs7 hM7 t7; (try simp only [Act.put, List.setIfInBounds_toArray, List.set_cons_zero, List.set_cons_succ]))
        refine walkT_one ?_
        (refine runN_call 16 27 _ _ _ (HMK.out _) rfl rfl rfl (by rfl) rfl (enter_made _ _ _ _ _) ?_; rintro e wb ⟨ma, mc, rfl, hfb⟩; have tb := hfb.2; (try have HAC := Lib.hid (tb.keeps HAC.out (fun h => h))); (try have HROW := Lib.hid (HROW.out.touch tb (fun _ _ => .inr (fun h => h)))); have HKB := Lib.hid (tb.keeps HKB.out (fun h => h)); have HPW := Lib.hid (HPW.out.still tb); have HROW := Lib.hid hfb.row'.2; refine ⟨_, rfl, HKB.out, fun hS => ?_⟩; clear tb hfb; (try simp only [Act.put, List.setIfInBounds_toArray, List.set_cons_zero, List.set_cons_succ]))
        refine walkT_one ?_
        (refine runN_call 17 18 _ _ _ (HPKT.out _ _ _ _ HPW.out HROW.out) rfl rfl rfl (by rfl) rfl (enter_packet _ _ _ _ _ _ _) ?_; rintro e wc ⟨pa, pn, pc, qa, qc, rfl, hpr, hst⟩; obtain ⟨h', M1, hpm, hpw, hoff⟩ := HPW.out.step hst; (try have HAO := Lib.hid (hoff _ (heap_lt HAC.out) HAO.out)); (try have HAC := Lib.hid ((step_touch hst).keeps HAC.out HAP.out)); have HKB := Lib.hid ((step_touch hst).keeps HKB.out HKO.out); obtain rfl := List.perm_singleton.1 hpm; have HPW := Lib.hid hpw; refine ⟨_, rfl, HKB.out, fun hS => ?_⟩; clear hst hpr hpm hpw hoff; (try simp only [Act.put, List.setIfInBounds_toArray, List.set_cons_zero, List.set_cons_succ]))
        refine walkT_one ?_
        (refine runN_store rfl rfl (by rfl) 53 _ _ rfl _ (planV 2 0 4 (.slice pa pn pc) (.slice qa 1 qc)) rfl rfl _ _ HAC.out infoPlan rfl rfl ?_; intro w8 hM8 t8; have HAC := Lib.hid hM8; have HKB := Lib.hid (t8.keeps HKB.out HKA.out); have HPW := Lib.hid (HPW.out.set _ HAO.out HAL.out t8); refine ⟨HKB.out, fun hS => ?_⟩; clear hM8 t8; (try simp only [Act.put, List.setIfInBounds_toArray, List.set_cons_zero, List.set_cons_succ]))
        refine walkT_fin ?_
        go_wp2_with fail
        go_meet
        exact ⟨_, _, _, _, _, _, _, rfl, HAC.out, HPW.out⟩
    · (have HAL := Lib.hid HPW.out.f.t.size; have HAO := Lib.hid (HPW.out.new _ (Nat.le_refl _)); have HAP := Lib.hid HAO.out.1; have HKA := Lib.hid (Nat.ne_of_lt (heap_lt HKB.out)); refine runN_new 4 (fun W => .pointer (some ⟨W.heap.size, 0, none⟩)) (planV 0 0 0 (.slice none 0 0) (.slice none 0 0)) 53 rfl rfl (by rfl) (by intro W; go_simp <;> first | with_reducible rfl | rfl | exact ⟨rfl, rfl⟩) ?_; intro w7 hw7 hM7 hs7 t7; (try have HAC := Lib.hid (t7.keeps HAC.out (fun h => h))); (try have HROW := Lib.hid (HROW.out.touch t7 (fun _ _ => .inr (fun h => h)))); have HKB := Lib.hid (t7.keeps HKB.out (fun h => h)); have HPW := Lib.hid (HPW.out.still t7); have HAC := Lib.hid hM7; refine ⟨HKB.out, fun _ => ?_⟩; clear hw7 hs7 hM7 t7; (try simp only [Act.put, List.setIfInBounds_toArray, List.set_cons_zero, List.set_cons_succ]))
      refine walkT_one ?_
      (refine runN_call 12 9 _ _ _ (HCFG.out _) rfl rfl rfl (by rfl) rfl (enter_config _ _) ?_; rintro e wa ⟨rfl, ta⟩; (try have HAC := Lib.hid (ta.keeps HAC.out (fun h => h))); (try have HROW := Lib.hid (HROW.out.touch ta (fun _ _ => .inr (fun h => h)))); have HKB := Lib.hid (ta.keeps HKB.out (fun h => h)); have HPW := Lib.hid (HPW.out.still ta); refine ⟨_, rfl, HKB.out, fun hS => ?_⟩; clear ta; (try simp only [Act.put, List.setIfInBounds_toArray, List.set_cons_zero, List.set_cons_succ]))
      refine walkT_one ?_
      (refine runN_call 16 27 _ _ _ (HMK.out _) rfl rfl rfl (by rfl) rfl (enter_made _ _ _ _ _) ?_; rintro e wb ⟨ma, mc, rfl, hfb⟩; have tb := hfb.2; (try have HAC := Lib.hid (tb.keeps HAC.out (fun h => h))); (try have HROW := Lib.hid (HROW.out.touch tb (fun _ _ => .inr (fun h => h)))); have HKB := Lib.hid (tb.keeps HKB.out (fun h => h)); have HPW := Lib.hid (HPW.out.still tb); have HROW := Lib.hid hfb.row'.2; refine ⟨_, rfl, HKB.out, fun hS => ?_⟩; clear tb hfb; (try simp only [Act.put, List.setIfInBounds_toArray, List.set_cons_zero, List.set_cons_succ]))
      refine walkT_one ?_
      (refine runN_call 17 18 _ _ _ (HPKT.out _ _ _ _ HPW.out HROW.out) rfl rfl rfl (by rfl) rfl (enter_packet _ _ _ _ _ _ _) ?_; rintro e wc ⟨pa, pn, pc, qa, qc, rfl, hpr, hst⟩; obtain ⟨h', M1, hpm, hpw, hoff⟩ := HPW.out.step hst; (try have HAO := Lib.hid (hoff _ (heap_lt HAC.out) HAO.out)); (try have HAC := Lib.hid ((step_touch hst).keeps HAC.out HAP.out)); have HKB := Lib.hid ((step_touch hst).keeps HKB.out HKO.out); obtain rfl := List.perm_singleton.1 hpm; have HPW := Lib.hid hpw; refine ⟨_, rfl, HKB.out, fun hS => ?_⟩; clear hst hpr hpm hpw hoff; (try simp only [Act.put, List.setIfInBounds_toArray, List.set_cons_zero, List.set_cons_succ]))
      refine walkT_one ?_
      (refine runN_store rfl rfl (by rfl) 53 _ _ rfl _ (planV 2 0 4 (.slice pa pn pc) (.slice qa 1 qc)) rfl rfl _ _ HAC.out infoPlan rfl rfl ?_; intro w8 hM8 t8; have HAC := Lib.hid hM8; have HKB := Lib.hid (t8.keeps HKB.out HKA.out); have HPW := Lib.hid (HPW.out.set _ HAO.out HAL.out t8); refine ⟨HKB.out, fun hS => ?_⟩; clear hM8 t8; (try simp only [Act.put, List.setIfInBounds_toArray, List.set_cons_zero, List.set_cons_succ]))
      refine walkT_fin ?_
      go_wp2_with fail
      go_meet
      exact ⟨_, _, _, _, _, _, _, rfl, HAC.out, HPW.out⟩
  case rest =>
    obtain ⟨AC, pa, pn, pc, qa, qc, h', rfl, hA, hP⟩ := hcut
    have y0 : wc.cell? ⟨AC, 0, none⟩ = some (.int .i64 2) := cell_of_cells hA 0
    have y2 : wc.cell? ⟨AC, 2, none⟩ = some (.int .i64 4) := cell_of_cells hA 2
    have y4 : wc.cell? ⟨AC, 4, none⟩ = some (.slice qa 1 qc) := cell_of_cells hA 4
    have HL := Lib.hid (flen_any wc g h' 2 20 [fl23] hP.f.q)
    have HT := Lib.hid hP.f.t
    clear hA hP HPW HPKT HCFG HMK HPK
    go_wp2_with fail
    refine HL.out.mono ?_
    rintro e w7 ⟨rfl, rfl⟩
    go_wp2_with fail
    go_ret
    exact ⟨rfl, HT.out⟩
end Go.Proofs.YtpjdcgjoepjmcaaGreat
