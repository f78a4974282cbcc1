import Derived.Test.YtpjdcgjoepjmcaaGreatGFZ
set_option linter.unusedVariables false
set_option linter.unusedSimpArgs false
section
namespace Go.Proofs.YtpjdcgjoepjmcaaGreat
open Go.RowKit
def touchB (M : List FlD) (t : TupD) (now : Int) : Bool := hasF M t && (timB now && decide ((getF M t).fs ≤ now))
def touchF (M : List FlD) (t : TupD) (now : Int) : List FlD := if touchB M t now = true then ⟨t, (getF M t).fb, (getF M t).fg, now⟩ :: delF M t else M
theorem getF_mem {M : List FlD} (hn : (M.map FlD.t).Nodup) {t : TupD} (h : hasF M t = true) : getF M t ∈ M ∧ (getF M t).t = t := by
 obtain ⟨f, hf, rfl⟩ := List.mem_map.1 ((hasF_iff _ _).1 h)
 rw [getF_of hn hf]
 exact ⟨hf, rfl⟩
theorem may_touch {f : FlD} {now : Int} (h : mayFB f = true) (ht : timB now = true) : mayFB ⟨f.t, f.fb, f.fg, now⟩ = true := by
 unfold mayFB rngF at *
 unfold timB at ht
 simp only [Bool.and_eq_true, decide_eq_true_iff] at *
 exact ⟨h.1, h.2.1, h.2.2.1, ht⟩
theorem FStep.same {w w' : World} {g : Nat} {h : FH} {most idle : Int} {M : List FlD} (d : FS w g h most idle M) (t : Touch w w' (fun _ => False)) : FStep w w' g h most idle M :=
 ⟨h, M, .refl _, d.still t, t.mono (fun _ _ h => h.elim), fun _ hk => .inl hk⟩
theorem FStep.after {w w1 w2 : World} {g : Nat} {h : FH} {most idle : Int} {M' : List FlD} (t : Touch w w1 (fun _ => False)) (s : FStep w1 w2 g h most idle M') : FStep w w2 g h most idle M' := by
 obtain ⟨h', M1, p, q, t2, f⟩ := s
 exact ⟨h', M1, p, q, (t.mono (T := footF g h) (fun _ _ h => h.elim)).trans t2 (fun _ _ h => h), fun k hk => (f k hk).imp (fun h => h) (fun h => Nat.le_trans t.size h)⟩
set_option maxRecDepth 20000 in
set_option maxHeartbeats 8000000 in
theorem ftouch_any (w : World) (g : Nat) (h : FH) (most idle : Int) (M : List FlD) (d : FS w g h most idle M) (t : TupD) (ot : TupOk t) (now : Int) :
 Calls Tryz.prog 123 #[.pointer (some ⟨g, 0, none⟩), .agg (tcs t), .int .i64 now] w fun e w' => e = .returned (.bool (hasF M t)) ∧ FStep w w' g h most idle (touchF M t now) := by
 have HD := Lib.hid d
 obtain ⟨W1, hW1⟩ : ∃ W, w.alloc (.cells (tcs t) 37) = W := ⟨_, rfl⟩
 have t1 : Touch w W1 (fun _ => False) := hW1 ▸ (Touch.refl w _).alloc _
 have g1 : W1.heap[w.heap.size]? = some (.cells (tcs t) 37 (0, 0)) := hW1 ▸ heap_alloc_new ..
 have HGET := Lib.hid (fget_any W1 g h most idle M (d.still t1) t ot)
 have HW1 := Lib.hid hW1
 have HT1 := Lib.hid t1
 obtain ⟨b, hb⟩ : ∃ b, hasF M t = b := ⟨_, rfl⟩
 obtain ⟨F, hF⟩ : ∃ F, getF M t = F := ⟨_, rfl⟩
 have hft : b = true → F ∈ M ∧ F.t = t := fun e => by have := getF_mem d.nd (hb.trans e); rw [hF] at this; exact this
 rw [hb, hF] at HGET
 have eq : touchF M t now = if (b && (timB now && decide (F.fs ≤ now))) = true then ⟨t, F.fb, F.fg, now⟩ :: delF M t else M := by unfold touchF touchB; rw [hb, hF]
 rw [eq, hb]
 have HB := Lib.hid hb
 have HFT := Lib.hid hft
 have z0 := cell_of_cells g1 0
 have z1 := cell_of_cells g1 1
 have z2 := cell_of_cells g1 2
 have z3 := cell_of_cells g1 3
 have z4 := cell_of_cells g1 4
 have HTM : RowKit.Hid (∀ W, Calls Tryz.prog 144 #[.int .i64 now] W fun e w' => e = .returned (.bool (timB now)) ∧ W = w') := Lib.hid (fun W => ftime_any W now)
 obtain ⟨tm, htm⟩ : ∃ tm, timB now = tm := ⟨_, rfl⟩
 have HTMB := Lib.hid htm
 rw [htm] at HTM ⊢
 have HOT := Lib.hid ot
 cases b with
 | false =>
   rw [Bool.false_and, if_neg (by decide)]
   obtain ⟨⟨b1, b2, b3, b4, b5⟩, gb, gg, gs⟩ := F
   obtain ⟨a1, a2, a3, a4, a5⟩ := t
   simp only [fca, tcs] at *
   clear d hW1 t1 g1 hb hF hft eq htm ot
   go_enter Tryz.func123, Tryz.ntmps123
   go_upto_region 1 with (fail)
   rw [HW1.out]
   go_wp2_with fail
   (with_reducible refine HGET.out.mono ?_)
   rintro e w2 ⟨rfl, t2⟩
   have HT2 := Lib.hid ((HT1.out.trans t2 (fun _ _ h => h)).alloc (.cells #[.int .u32 b1, .int .u32 b2, .int .i64 b3, .int .i64 b4, .int .i64 b5, .int .i64 gb, .int .i64 gg, .int .i64 gs] 83))
   clear t2
   go_wp2_with fail
   go_ret
   exact ⟨rfl, FStep.same HD.out HT2.out⟩
 | true =>
   obtain ⟨hmem, hftt⟩ := hft rfl
   have mfF := (HD.out.ok F hmem).2
   obtain ⟨ft, gb, gg, gs⟩ := F
   obtain rfl : ft = t := hftt
   have HMF := Lib.hid mfF
   have HK2 : RowKit.Hid (tm = true → ∀ W, Touch w W (fun _ => False) → Calls Tryz.prog 145 #[.pointer (some ⟨g, 0, none⟩), .agg (fca ⟨ft, gb, gg, now⟩)] W fun e w' => e = .returned (.tuple #[]) ∧ FStep W w' g h most idle (⟨ft, gb, gg, now⟩ :: delF M ft)) := Lib.hid (fun htt W t => fkeep_any W g h most idle M (HD.out.still t) ⟨ft, gb, gg, now⟩ HOT.out (may_touch (f := ⟨ft, gb, gg, gs⟩) HMF.out (HTMB.out.trans htt)) (.inl HB.out))
   rw [Bool.true_and]
   have HI8 := Lib.hid infoFlow
   simp only at *
   obtain ⟨M2, hM2⟩ : ∃ M2, (⟨ft, gb, gg, now⟩ : FlD) :: delF M ft = M2 := ⟨_, rfl⟩
   rw [hM2] at HK2 ⊢
   obtain ⟨MT, hMT⟩ : ∃ MT, (if (tm && decide (gs ≤ now)) = true then M2 else M) = MT := ⟨_, rfl⟩
   rw [hMT]
   have HMT := Lib.hid hMT
   clear hMT
   obtain ⟨a1, a2, a3, a4, a5⟩ := ft
   simp only [fca, tcs] at *
   clear d hW1 t1 g1 hb hF hft eq htm ot hmem mfF hM2 HFT
   have pre : ∀ w2, Touch W1 w2 (fun _ => False) → ∃ W3, w2.alloc (.cells #[.int .u32 a1, .int .u32 a2, .int .i64 a3, .int .i64 a4, .int .i64 a5, .int .i64 gb, .int .i64 gg, .int .i64 gs] 83) = W3 ∧ Touch w W3 (fun _ => False) ∧ W3.heap[w2.heap.size]? = some (.cells #[.int .u32 a1, .int .u32 a2, .int .i64 a3, .int .i64 a4, .int .i64 a5, .int .i64 gb, .int .i64 gg, .int .i64 gs] 83 (0, 0)) ∧ w.heap.size ≤ w2.heap.size := fun w2 t2 => ⟨_, rfl, (HT1.out.trans t2 (fun _ _ h => h)).alloc _, heap_alloc_new .., Nat.le_trans HT1.out.size t2.size⟩
   have HPRE := Lib.hid pre
   clear pre
   go_enter Tryz.func123, Tryz.ntmps123
   go_upto_region 1 with (fail)
   rw [HW1.out]
   go_upto_region 2 with (go_at_call 33; (with_reducible refine HGET.out.mono ?_); rintro e w2 ⟨rfl, t2⟩; have HT2 := Lib.hid t2; clear t2)
   obtain ⟨W3, hW3, t3, h3, hz3⟩ := HPRE.out w2 HT2.out
   rw [hW3]
   obtain ⟨B, hB⟩ : ∃ B, w2.heap.size = B := ⟨_, rfl⟩
   rw [hB] at h3 hz3 ⊢
   have HT3 := Lib.hid t3
   have H3 := Lib.hid h3
   have HZ3 := Lib.hid hz3
   have c7 := cell_of_cells h3 7
   have f7 := free_of_cells h3 7
   clear hW3 t3 h3 hz3 hB z0 z1 z2 z3 z4
   cases tm with
   | false =>
     have em : M = MT := by have := HMT.out; rw [Bool.false_and, if_neg (by decide)] at this; exact this
     have HEM := Lib.hid em
     clear em
     go_wp2_with (go_at_call 144; (with_reducible refine (HTM.out _).mono ?_); rintro e w4 ⟨rfl, rfl⟩)
     go_ret
     exact ⟨rfl, HEM.out ▸ FStep.same HD.out HT3.out⟩
   | true =>
     by_cases hle : gs ≤ now
     ·have em : M2 = MT := by have := HMT.out; rw [Bool.true_and, if_pos (decide_eq_true hle)] at this; exact this
      have HEM := Lib.hid em
      clear em
      go_upto_region 4 with (go_at_call 144; (with_reducible refine (HTM.out _).mono ?_); rintro e w4 ⟨rfl, rfl⟩)
      have h4 : (W3.setCell ⟨B, 7, none⟩ (.int .i64 now)).heap[B]? = some (.cells (fca ⟨⟨a1, a2, a3, a4, a5⟩, gb, gg, now⟩) 83 (0, 0)) := heap_setCell_same W3 B 7 _ _ _ H3.out
      have t4 : Touch w (W3.setCell ⟨B, 7, none⟩ (.int .i64 now)) (fun _ => False) := HT3.out.setCell _ _ (fun h => by have := HZ3.out; have h : B < w.heap.size := h; omega)
      generalize W3.setCell ⟨B, 7, none⟩ (.int .i64 now) = W4 at h4 t4 ⊢
      obtain ⟨x0, x1, x2, x3, x4, x5, x6, x7⟩ := fcells_of h4
      have HK4 := Lib.hid (HK2.out (by trivial) W4 t4)
      have HT4 := Lib.hid t4
      clear c7 f7 h4 t4
      go_wp2_with fail
      (with_reducible refine HK4.out.mono ?_)
      rintro e w5 ⟨rfl, s5⟩
      have HS5 := Lib.hid (HEM.out ▸ FStep.after HT4.out s5)
      clear s5
      go_wp2_with fail
      go_ret
      exact ⟨rfl, HS5.out⟩
     ·have em : M = MT := by have := HMT.out; rw [Bool.true_and, if_neg (by simp only [decide_eq_true_iff]; exact hle)] at this; exact this
      have HEM := Lib.hid em
      clear em
      go_wp2_with (go_at_call 144; (with_reducible refine (HTM.out _).mono ?_); rintro e w4 ⟨rfl, rfl⟩)
      go_ret
      exact ⟨rfl, HEM.out ▸ FStep.same HD.out HT3.out⟩
end Go.Proofs.YtpjdcgjoepjmcaaGreat
end
section
namespace Go.Proofs.YtpjdcgjoepjmcaaGreat
open Go.RowKit
theorem enter_qdropF (a b : Value) (w : World) : (callFunc 142 #[a, b]).run Tryz.prog w = .ok (.enter 142 #[a, b]) w := by kernel_rfl
set_option maxRecDepth 20000 in
set_option maxHeartbeats 8000000 in
theorem fdrop_any (w : World) (g : Nat) (h : FH) (most idle : Int) (M : List FlD) (d : FS w g h most idle M) (t : TupD) (ot : TupOk t) :
 Calls Tryz.prog 122 #[.pointer (some ⟨g, 0, none⟩), .agg (tcs t)] w fun e w' => e = .returned (.bool (hasF M t)) ∧ FStep w w' g h most idle (delF M t) := by
 have HD := Lib.hid d
 obtain ⟨W1, hW1⟩ : ∃ W, w.alloc (.cells (tcs t) 37) = W := ⟨_, rfl⟩
 have t1 : Touch w W1 (fun _ => False) := hW1 ▸ (Touch.refl w _).alloc _
 have g1 : W1.heap[w.heap.size]? = some (.cells (tcs t) 37 (0, 0)) := hW1 ▸ heap_alloc_new ..
 have HGET := Lib.hid (fget_any W1 g h most idle M (d.still t1) t ot)
 have HW1 := Lib.hid hW1
 have HT1 := Lib.hid t1
 obtain ⟨b, hb⟩ : ∃ b, hasF M t = b := ⟨_, rfl⟩
 obtain ⟨F, hF⟩ : ∃ F, getF M t = F := ⟨_, rfl⟩
 rw [hb, hF] at HGET
 rw [hb]
 have z0 := cell_of_cells g1 0
 have z1 := cell_of_cells g1 1
 have z2 := cell_of_cells g1 2
 have z3 := cell_of_cells g1 3
 have z4 := cell_of_cells g1 4
 have HOT := Lib.hid ot
 cases b with
 | false =>
   have hd : delF M t = M := delF_none (fun h => by rw [← hasF_iff, hb] at h; cases h)
   rw [hd]
   obtain ⟨⟨b1, b2, b3, b4, b5⟩, gb, gg, gs⟩ := F
   obtain ⟨a1, a2, a3, a4, a5⟩ := t
   simp only [fca, tcs] at *
   clear d hW1 t1 g1 hb hF hd ot
   go_enter Tryz.func122, Tryz.ntmps122
   go_upto_region 1 with (fail)
   rw [HW1.out]
   go_wp2_with fail
   (with_reducible refine HGET.out.mono ?_)
   rintro e w2 ⟨rfl, t2⟩
   have HT2 := Lib.hid ((HT1.out.trans t2 (fun _ _ h => h)).alloc (.cells #[.int .u32 b1, .int .u32 b2, .int .i64 b3, .int .i64 b4, .int .i64 b5, .int .i64 gb, .int .i64 gg, .int .i64 gs] 83))
   clear t2
   go_wp2_with fail
   go_ret
   exact ⟨rfl, FStep.same HD.out HT2.out⟩
 | true =>
   have mt : mayTB t = true := by
    obtain ⟨h1, h2⟩ := getF_mem d.nd hb
    have h3 := (may_ok (d.ok _ h1).2).1
    rwa [h2] at h3
   have HDQ := Lib.hid (del_qf d.ok ot mt)
   have HMO : RowKit.Hid (MayF (delF M t)) := Lib.hid (fun x hx => d.ok x (List.mem_filter.1 hx).1)
   have HML : RowKit.Hid (((delF M t).length : Int) ≤ most) := Lib.hid (by
    have h1 := (List.filter_sublist (l := M) (p := fun f => !decide (f.t = t))).length_le
    have h2 := d.len.1
    have h3 : (delF M t).length ≤ M.length := h1
    omega)
   have HKEY := Lib.hid (fun W => fkey_any t ot W)
   have HDRP : RowKit.Hid (∀ W, QL W h.bq h.hq (M.map qf) → Calls Tryz.prog 142 #[.pointer (some ⟨h.bq, 0, none⟩), .string (kT t)] W fun e w' => ∃ c, e = .returned (.bool c) ∧ QLStep W w' h.bq h.hq ((delF M t).map qf)) := Lib.hid (fun W q => by
    have h1 := qdrop_any W h.bq h.hq (M.map qf) q (kT t) (kT_size _)
    rw [HDQ.out] at h1
    exact h1.mono fun e w' k => ⟨_, k⟩)
   have HG1 := Lib.hid g1
   have HI5 := Lib.hid infoTupF
   obtain ⟨K, hK⟩ : ∃ K, kT t = K := ⟨_, rfl⟩
   rw [hK] at HKEY HDRP
   obtain ⟨MD, hMD⟩ : ∃ MD, delF M t = MD := ⟨_, rfl⟩
   rw [hMD] at HMO HML HDRP
   rw [hMD]
   have HMD := Lib.hid hMD
   obtain ⟨⟨b1, b2, b3, b4, b5⟩, gb, gg, gs⟩ := F
   obtain ⟨a1, a2, a3, a4, a5⟩ := t
   simp only [fca, tcs] at *
   clear d hW1 t1 g1 hb hF ot mt hK hMD HDQ
   go_enter Tryz.func122, Tryz.ntmps122
   go_upto_region 1 with (fail)
   rw [HW1.out]
   go_upto_region 3 with (go_at_call 33; (with_reducible refine HGET.out.mono ?_); rintro e w2 ⟨rfl, t2⟩; have HT2 := Lib.hid t2; clear t2)
   obtain ⟨W3, hW3⟩ : ∃ W, w2.alloc (.cells #[.int .u32 b1, .int .u32 b2, .int .i64 b3, .int .i64 b4, .int .i64 b5, .int .i64 gb, .int .i64 gg, .int .i64 gs] 83) = W := ⟨_, rfl⟩
   have t13 : Touch W1 W3 (fun _ => False) := hW3 ▸ HT2.out.alloc _
   rw [hW3]
   have HT3 := Lib.hid (HT1.out.trans t13 (fun _ _ h => h))
   have HG3 : RowKit.Hid (W3.heap[w.heap.size]? = some (.cells #[.int .u32 a1, .int .u32 a2, .int .i64 a3, .int .i64 a4, .int .i64 a5] 37 (0, 0))) := Lib.hid (t13.keeps HG1.out (fun h => h))
   have HD3 := Lib.hid (HD.out.still HT3.out)
   have hnb : w.heap.size ≠ h.mb := fun e => by have := HD.out.map.lt; omega
   have HNB := Lib.hid hnb
   have HC3 : RowKit.Hid (∀ W, Touch W3 W (fun k => k = h.mb) → W.cell? ⟨g, 2, none⟩ = some (.map (some h.mb)) ∧ W.heap[w.heap.size]? = some (.cells #[.int .u32 a1, .int .u32 a2, .int .i64 a3, .int .i64 a4, .int .i64 a5] 37 (0, 0))) := Lib.hid (fun W x => ⟨cell_of_cells (x.keeps HD3.out.head HD.out.n1) 2, x.keeps HG3.out HNB.out⟩)
   obtain ⟨wz, hz1, hz2, hz3⟩ := (HD3.out.map.still ((Touch.refl W3 (fun _ => False)).drew)).drop ⟨a1, a2, a3, a4, a5⟩ HOT.out 0
   rw [HMD.out] at hz2
   simp only [tcs] at hz1
   have HZ1 := Lib.hid hz1
   have HZ2 := Lib.hid hz2
   have HZ3 := Lib.hid hz3
   have HZT := Lib.hid (((Touch.refl W3 (fun k => k = h.mb)).drew).trans hz3 (fun _ _ h => h))
   clear hW3 t13 hnb hz1 hz2 hz3 z0 z1 z2 z3 z4
   have hS := (Touch.refl W3 (fun k => k = h.mb)).drew
   refine wp_region_tree (fun w' => Touch W3 w' (fun k => k = h.mb)) (.take 0 (.take 1 (.take 2 (.take 3 (.take 4 (.one 5 .fin)))))) (by kernel_rfl) (by kernel_rfl) (by kernel_rfl) (by kernel_rfl) hS ?_
   repeat' (first
    | (with_reducible refine walkT_take ?_)
    | (with_reducible refine walkT_one ?_)
    | (with_reducible refine walkT_two ?_ ?_)
    | (with_reducible refine walkT_fin ?_)
    | ((with_reducible show TakeN _ _ _ _ 4 _ _ _); ((refine takeN_row (some 18) rfl rfl 37 (.tmp 3) rfl (w.heap.size) rfl _ _ _ _ (fun w' h => (HC3.out w' h).2) Tryz.underlying37 rfl HI5.out (fun _ _ _ h => h) (by rfl) ?_; (try simp only [Act.put, List.setIfInBounds_toArray, List.set_cons_zero, List.set_cons_succ]))))
    | ((with_reducible show TakeN _ _ _ _ _ _ _ _); ((refine takeN_take (v := ?_) (some _) rfl rfl (fun _ _ _ h => h) (by rfl) ?_ ?_; rotate_left; (focus (intro w' hw'; obtain ⟨y0, _⟩ := HC3.out w' hw'; go_simp; (try with_reducible rfl))); (try simp only [Act.put, List.setIfInBounds_toArray, List.set_cons_zero, List.set_cons_succ]))))
    | ((with_reducible show RunN _ _ _ _ 5 _ _ _); ((refine runN_do (v := .tuple #[]) (w' := wz) none rfl rfl (by rfl) (by have q := HZ1.out; go_simp; (try with_reducible rfl)) HZT.out (fun hS => ?_); (try simp only [Act.put, List.setIfInBounds_toArray, List.set_cons_zero, List.set_cons_succ])))))
   all_goals
    have HQZ : RowKit.Hid (QL wz h.bq h.hq (M.map qf)) := Lib.hid ((HD3.out.q.still ((Touch.refl W3 (fun _ => False)).drew)).touch HZ3.out (fun k hk e => HD.out.n3 (e ▸ hk)))
    have HC4 : RowKit.Hid (∀ W, Touch wz W (footQ h.bq h.hq) → W.cell? ⟨g, 3, none⟩ = some (.pointer (some ⟨h.bq, 0, none⟩)) ∧ W.heap[w.heap.size]? = some (.cells #[.int .u32 a1, .int .u32 a2, .int .i64 a3, .int .i64 a4, .int .i64 a5] 37 (0, 0))) := Lib.hid (fun W x => ⟨cell_of_cells (x.keeps (HZT.out.keeps HD3.out.head HD.out.n1) HD.out.n2) 3, x.keeps (HC3.out wz HZT.out).2 (fun hf => by have := HD.out.q.footlt _ hf; omega)⟩)
    clear hS
    go_upto_region 4 with (fail)
    have hS := (Touch.refl wz (footQ h.bq h.hq)).drew
    refine wp_region_sched (fun w' => Touch wz w' (footQ h.bq h.hq)) [(0, true), (1, true), (2, true), (3, true), (4, true), (5, false), (6, false)] (by kernel_rfl) (by kernel_rfl) rfl (by kernel_rfl) hS ?_
    (refine walkS_take (v := ?_) (some 19) rfl rfl (fun _ _ _ h => h) (by rfl) ?_ ?_; rotate_left; (focus (intro w' hw'; obtain ⟨y0, _⟩ := HC4.out w' hw'; go_simp; (try with_reducible rfl))); (try simp only [Act.put, List.setIfInBounds_toArray, List.set_cons_zero, List.set_cons_succ]))
    (refine walkS_take (v := ?_) (some 20) rfl rfl (fun _ _ _ h => h) (by rfl) ?_ ?_; rotate_left; (focus (intro w' hw'; obtain ⟨y0, _⟩ := HC4.out w' hw'; go_simp; (try with_reducible rfl))); (try simp only [Act.put, List.setIfInBounds_toArray, List.set_cons_zero, List.set_cons_succ]))
    (refine walkS_take (v := ?_) (some 21) rfl rfl (fun _ _ _ h => h) (by rfl) ?_ ?_; rotate_left; (focus (intro w' hw'; obtain ⟨y0, _⟩ := HC4.out w' hw'; go_simp; (try with_reducible rfl))); (try simp only [Act.put, List.setIfInBounds_toArray, List.set_cons_zero, List.set_cons_succ]))
    (refine walkS_take (v := ?_) (some 22) rfl rfl (fun _ _ _ h => h) (by rfl) ?_ ?_; rotate_left; (focus (intro w' hw'; obtain ⟨y0, _⟩ := HC4.out w' hw'; go_simp; (try with_reducible rfl))); (try simp only [Act.put, List.setIfInBounds_toArray, List.set_cons_zero, List.set_cons_succ]))
    (refine walkS_row (some 23) rfl rfl 37 (.tmp 3) rfl (w.heap.size) rfl _ _ _ _ (fun w' h => (HC4.out w' h).2) Tryz.underlying37 rfl HI5.out (fun _ _ _ h => h) (by rfl) ?_; (try simp only [Act.put, List.setIfInBounds_toArray, List.set_cons_zero, List.set_cons_succ]))
    (refine walkS_call 24 _ _ _ _ (HKEY.out _) rfl rfl rfl (by rfl) rfl (enter_fkey _ _) ?_; rintro e w5 ⟨rfl, t5⟩; have HTK := Lib.hid (((Touch.refl wz (fun _ => False)).drew).trans t5 (fun _ _ h => h)); refine ⟨_, rfl, hS.trans t5 (fun _ _ h => h.elim), fun hS => ?_⟩; clear t5; (try simp only [Act.put, List.setIfInBounds_toArray, List.set_cons_zero, List.set_cons_succ]))
    (refine walkS_call 25 _ _ _ _ (HDRP.out _ (HQZ.out.still HTK.out)) rfl rfl rfl (by rfl) rfl (enter_qdropF _ _ _) ?_; rintro e w6 ⟨c6, rfl, s2⟩; have HS2 := Lib.hid s2; obtain ⟨_, _, t6, _⟩ := s2; refine ⟨_, rfl, hS.trans t6 (fun _ _ h => h), fun hS => ?_⟩; clear t6; (try simp only [Act.put, List.setIfInBounds_toArray, List.set_cons_zero, List.set_cons_succ]))
    refine walkS_done ?_
    go_wp2_with fail
    go_ret
    exact ⟨rfl, HD.out.step (HT3.out.trans ((Touch.refl W3 (fun _ => False)).drew) (fun _ _ h => h)) HZ2.out HZ3.out HTK.out HS2.out (.refl _) HMO.out HML.out⟩
end Go.Proofs.YtpjdcgjoepjmcaaGreat
end
