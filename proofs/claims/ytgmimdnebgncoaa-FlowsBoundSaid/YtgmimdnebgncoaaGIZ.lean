/- GI: FlowTouch, FlowDrop, FlowThAll. -/
import Derived.Test.YtgmimdnebgncoaaGFZ
import Derived.Test.YtgmimdnebgncoaaGHZ
section
/- Flows: Touch. -/
set_option linter.unusedVariables false
set_option linter.unusedSimpArgs false
namespace Go.Proofs.Ytgmimdnebgncoaa
open Go.RowKit

def touchB (M : List FlD) (t : TupD) (now : Int) : Bool := hasF M t && (timB now && decide ((getF M t).fs ≤ now))
def touchF (M : List FlD) (t : TupD) (now : Int) : List FlD := if touchB M t now = true then ⟨t, (getF M t).fb, (getF M t).fg, now⟩ :: delF M t else M
theorem getF_mem {M : List FlD} (hn : (M.map FlD.t).Nodup) {t : TupD} (h : hasF M t = true) : getF M t ∈ M ∧ (getF M t).t = t := by
  obtain ⟨f, hf, rfl⟩ := List.mem_map.1 ((hasF_iff _ _).1 h)
  rw [getF_of hn hf]
  exact ⟨hf, rfl⟩
theorem may_touch {f : FlD} {now : Int} (h : mayFB f = true) (ht : timB now = true) : mayFB ⟨f.t, f.fb, f.fg, now⟩ = true := by
  unfold mayFB rngF at *
  unfold timB at ht
  simp only [Bool.and_eq_true, decide_eq_true_iff] at *
  exact ⟨h.1, h.2.1, h.2.2.1, ht⟩
theorem FStep.same {w w' : World} {g : Nat} {h : FH} {most idle : Int} {M : List FlD} (d : FS w g h most idle M) (t : Touch w w' (fun _ => False)) : FStep w w' g h most idle M :=
  ⟨h, M, .refl _, d.still t, t.mono (fun _ _ h => h.elim), fun _ hk => .inl hk⟩
theorem FStep.after {w w1 w2 : World} {g : Nat} {h : FH} {most idle : Int} {M' : List FlD} (t : Touch w w1 (fun _ => False)) (s : FStep w1 w2 g h most idle M') : FStep w w2 g h most idle M' := by
  obtain ⟨h', M1, p, q, t2, f⟩ := s
  exact ⟨h', M1, p, q, (t.mono (T := footF g h) (fun _ _ h => h.elim)).trans t2 (fun _ _ h => h), fun k hk => (f k hk).imp (fun h => h) (fun h => Nat.le_trans t.size h)⟩
set_option maxRecDepth 20000 in
set_option maxHeartbeats 8000000 in
theorem ftouch_any (w : World) (g : Nat) (h : FH) (most idle : Int) (M : List FlD) (d : FS w g h most idle M) (t : TupD) (ot : TupOk t) (now : Int) :
    Calls Try.prog 11 #[.pointer (some ⟨g, 0, none⟩), .agg (tcs t), .int .i64 now] w fun e w' => e = .returned (.bool (hasF M t)) ∧ FStep w w' g h most idle (touchF M t now) := by
  have HD := Lib.hid d
  obtain ⟨W1, hW1⟩ : ∃ W, w.alloc (.cells (tcs t) 24) = W := ⟨_, rfl⟩
  have t1 : Touch w W1 (fun _ => False) := hW1 ▸ (Touch.refl w _).alloc _
  have g1 : W1.heap[w.heap.size]? = some (.cells (tcs t) 24 (0, 0)) := hW1 ▸ heap_alloc_new ..
  have HGET := Lib.hid (fget_any W1 g h most idle M (d.still t1) t ot)
  have HW1 := Lib.hid hW1
  have HT1 := Lib.hid t1
  obtain ⟨b, hb⟩ : ∃ b, hasF M t = b := ⟨_, rfl⟩
  obtain ⟨F, hF⟩ : ∃ F, getF M t = F := ⟨_, rfl⟩
  have hft : b = true → F ∈ M ∧ F.t = t := fun e => by have := getF_mem d.nd (hb.trans e); rw [hF] at this; exact this
  rw [hb, hF] at HGET
  have eq : touchF M t now = if (b && (timB now && decide (F.fs ≤ now))) = true then ⟨t, F.fb, F.fg, now⟩ :: delF M t else M := by unfold touchF touchB; rw [hb, hF]
  rw [eq, hb]
  have HB := Lib.hid hb
  have HFT := Lib.hid hft
  have z0 := cell_of_cells g1 0
  have z1 := cell_of_cells g1 1
  have z2 := cell_of_cells g1 2
  have z3 := cell_of_cells g1 3
  have z4 := cell_of_cells g1 4
  have HTM : RowKit.Hid (∀ W, Calls Try.prog 26 #[.int .i64 now] W fun e w' => e = .returned (.bool (timB now)) ∧ W = w') := Lib.hid (fun W => ftime_any W now)
  obtain ⟨tm, htm⟩ : ∃ tm, timB now = tm := ⟨_, rfl⟩
  have HTMB := Lib.hid htm
  rw [htm] at HTM ⊢
  have HOT := Lib.hid ot
  cases b with
  | false =>
    rw [Bool.false_and, if_neg (by decide)]
    obtain ⟨⟨b1, b2, b3, b4, b5⟩, gb, gg, gs⟩ := F
    obtain ⟨a1, a2, a3, a4, a5⟩ := t
    simp only [fca, tcs] at *
    clear d hW1 t1 g1 hb hF hft eq htm ot
    go_enter Try.func11, Try.ntmps11
    go_upto_region 1 with (fail)
    rw [HW1.out]
    go_wp2_with fail
    (with_reducible refine HGET.out.mono ?_)
    rintro e w2 ⟨rfl, t2⟩
    have HT2 := Lib.hid ((HT1.out.trans t2 (fun _ _ h => h)).alloc (.cells #[.int .u32 b1, .int .u32 b2, .int .i64 b3, .int .i64 b4, .int .i64 b5, .int .i64 gb, .int .i64 gg, .int .i64 gs] 26))
    clear t2
    go_wp2_with fail
    go_ret
    exact ⟨rfl, FStep.same HD.out HT2.out⟩
  | true =>
    obtain ⟨hmem, hftt⟩ := hft rfl
    have mfF := (HD.out.ok F hmem).2
    obtain ⟨ft, gb, gg, gs⟩ := F
    obtain rfl : ft = t := hftt
    have HMF := Lib.hid mfF
    have HK2 : RowKit.Hid (tm = true → ∀ W, Touch w W (fun _ => False) → Calls Try.prog 25 #[.pointer (some ⟨g, 0, none⟩), .agg (fca ⟨ft, gb, gg, now⟩)] W fun e w' => e = .returned (.tuple #[]) ∧ FStep W w' g h most idle (⟨ft, gb, gg, now⟩ :: delF M ft)) := Lib.hid (fun htt W t => fkeep_any W g h most idle M (HD.out.still t) ⟨ft, gb, gg, now⟩ HOT.out (may_touch (f := ⟨ft, gb, gg, gs⟩) HMF.out (HTMB.out.trans htt)) (.inl HB.out))
    rw [Bool.true_and]
    have HI8 := Lib.hid infoFlow
    simp only at *
    obtain ⟨M2, hM2⟩ : ∃ M2, (⟨ft, gb, gg, now⟩ : FlD) :: delF M ft = M2 := ⟨_, rfl⟩
    rw [hM2] at HK2 ⊢
    obtain ⟨MT, hMT⟩ : ∃ MT, (if (tm && decide (gs ≤ now)) = true then M2 else M) = MT := ⟨_, rfl⟩
    rw [hMT]
    have HMT := Lib.hid hMT
    clear hMT
    obtain ⟨a1, a2, a3, a4, a5⟩ := ft
    simp only [fca, tcs] at *
    clear d hW1 t1 g1 hb hF hft eq htm ot hmem mfF hM2 HFT
    have pre : ∀ w2, Touch W1 w2 (fun _ => False) → ∃ W3, w2.alloc (.cells #[.int .u32 a1, .int .u32 a2, .int .i64 a3, .int .i64 a4, .int .i64 a5, .int .i64 gb, .int .i64 gg, .int .i64 gs] 26) = W3 ∧ Touch w W3 (fun _ => False) ∧ W3.heap[w2.heap.size]? = some (.cells #[.int .u32 a1, .int .u32 a2, .int .i64 a3, .int .i64 a4, .int .i64 a5, .int .i64 gb, .int .i64 gg, .int .i64 gs] 26 (0, 0)) ∧ w.heap.size ≤ w2.heap.size := fun w2 t2 => ⟨_, rfl, (HT1.out.trans t2 (fun _ _ h => h)).alloc _, heap_alloc_new .., Nat.le_trans HT1.out.size t2.size⟩
    have HPRE := Lib.hid pre
    clear pre
    go_enter Try.func11, Try.ntmps11
    go_upto_region 1 with (fail)
    rw [HW1.out]
    go_upto_region 2 with (go_at_call 10; (with_reducible refine HGET.out.mono ?_); rintro e w2 ⟨rfl, t2⟩; have HT2 := Lib.hid t2; clear t2)
    obtain ⟨W3, hW3, t3, h3, hz3⟩ := HPRE.out w2 HT2.out
    rw [hW3]
    obtain ⟨B, hB⟩ : ∃ B, w2.heap.size = B := ⟨_, rfl⟩
    rw [hB] at h3 hz3 ⊢
    have HT3 := Lib.hid t3
    have H3 := Lib.hid h3
    have HZ3 := Lib.hid hz3
    have c7 := cell_of_cells h3 7
    have f7 := free_of_cells h3 7
    clear hW3 t3 h3 hz3 hB z0 z1 z2 z3 z4
    cases tm with
    | false =>
      have em : M = MT := by have := HMT.out; rw [Bool.false_and, if_neg (by decide)] at this; exact this
      have HEM := Lib.hid em
      clear em
      go_wp2_with (go_at_call 26; (with_reducible refine (HTM.out _).mono ?_); rintro e w4 ⟨rfl, rfl⟩)
      go_ret
      exact ⟨rfl, HEM.out ▸ FStep.same HD.out HT3.out⟩
    | true =>
      by_cases hle : gs ≤ now
      · have em : M2 = MT := by have := HMT.out; rw [Bool.true_and, if_pos (decide_eq_true hle)] at this; exact this
        have HEM := Lib.hid em
        clear em
        go_upto_region 4 with (go_at_call 26; (with_reducible refine (HTM.out _).mono ?_); rintro e w4 ⟨rfl, rfl⟩)
        have h4 : (W3.setCell ⟨B, 7, none⟩ (.int .i64 now)).heap[B]? = some (.cells (fca ⟨⟨a1, a2, a3, a4, a5⟩, gb, gg, now⟩) 26 (0, 0)) := heap_setCell_same W3 B 7 _ _ _ H3.out
        have t4 : Touch w (W3.setCell ⟨B, 7, none⟩ (.int .i64 now)) (fun _ => False) := HT3.out.setCell _ _ (fun h => by have := HZ3.out; have h : B < w.heap.size := h; omega)
        generalize W3.setCell ⟨B, 7, none⟩ (.int .i64 now) = W4 at h4 t4 ⊢
        obtain ⟨x0, x1, x2, x3, x4, x5, x6, x7⟩ := fcells_of h4
        have HK4 := Lib.hid (HK2.out (by trivial) W4 t4)
        have HT4 := Lib.hid t4
        clear c7 f7 h4 t4
        go_wp2_with fail
        (with_reducible refine HK4.out.mono ?_)
        rintro e w5 ⟨rfl, s5⟩
        have HS5 := Lib.hid (HEM.out ▸ FStep.after HT4.out s5)
        clear s5
        go_wp2_with fail
        go_ret
        exact ⟨rfl, HS5.out⟩
      · have em : M = MT := by have := HMT.out; rw [Bool.true_and, if_neg (by simp only [decide_eq_true_iff]; exact hle)] at this; exact this
        have HEM := Lib.hid em
        clear em
        go_wp2_with (go_at_call 26; (with_reducible refine (HTM.out _).mono ?_); rintro e w4 ⟨rfl, rfl⟩)
        go_ret
        exact ⟨rfl, HEM.out ▸ FStep.same HD.out HT3.out⟩
end Go.Proofs.Ytgmimdnebgncoaa

end

section
/- Flows: Drop. -/
set_option linter.unusedVariables false
set_option linter.unusedSimpArgs false
namespace Go.Proofs.Ytgmimdnebgncoaa
open Go.RowKit

theorem enter_qdropF (a b : Value) (w : World) : (callFunc 27 #[a, b]).run Try.prog w = .ok (.enter 27 #[a, b]) w := by kernel_rfl
set_option maxRecDepth 20000 in
set_option maxHeartbeats 8000000 in
theorem fdrop_any (w : World) (g : Nat) (h : FH) (most idle : Int) (M : List FlD) (d : FS w g h most idle M) (t : TupD) (ot : TupOk t) :
    Calls Try.prog 12 #[.pointer (some ⟨g, 0, none⟩), .agg (tcs t)] w fun e w' => e = .returned (.bool (hasF M t)) ∧ FStep w w' g h most idle (delF M t) := by
  have HD := Lib.hid d
  obtain ⟨W1, hW1⟩ : ∃ W, w.alloc (.cells (tcs t) 24) = W := ⟨_, rfl⟩
  have t1 : Touch w W1 (fun _ => False) := hW1 ▸ (Touch.refl w _).alloc _
  have g1 : W1.heap[w.heap.size]? = some (.cells (tcs t) 24 (0, 0)) := hW1 ▸ heap_alloc_new ..
  have HGET := Lib.hid (fget_any W1 g h most idle M (d.still t1) t ot)
  have HW1 := Lib.hid hW1
  have HT1 := Lib.hid t1
  obtain ⟨b, hb⟩ : ∃ b, hasF M t = b := ⟨_, rfl⟩
  obtain ⟨F, hF⟩ : ∃ F, getF M t = F := ⟨_, rfl⟩
  rw [hb, hF] at HGET
  rw [hb]
  have z0 := cell_of_cells g1 0
  have z1 := cell_of_cells g1 1
  have z2 := cell_of_cells g1 2
  have z3 := cell_of_cells g1 3
  have z4 := cell_of_cells g1 4
  have HOT := Lib.hid ot
  cases b with
  | false =>
    have hd : delF M t = M := delF_none (fun h => by rw [← hasF_iff, hb] at h; cases h)
    rw [hd]
    obtain ⟨⟨b1, b2, b3, b4, b5⟩, gb, gg, gs⟩ := F
    obtain ⟨a1, a2, a3, a4, a5⟩ := t
    simp only [fca, tcs] at *
    clear d hW1 t1 g1 hb hF hd ot
    go_enter Try.func12, Try.ntmps12
    go_upto_region 1 with (fail)
    rw [HW1.out]
    go_wp2_with fail
    (with_reducible refine HGET.out.mono ?_)
    rintro e w2 ⟨rfl, t2⟩
    have HT2 := Lib.hid ((HT1.out.trans t2 (fun _ _ h => h)).alloc (.cells #[.int .u32 b1, .int .u32 b2, .int .i64 b3, .int .i64 b4, .int .i64 b5, .int .i64 gb, .int .i64 gg, .int .i64 gs] 26))
    clear t2
    go_wp2_with fail
    go_ret
    exact ⟨rfl, FStep.same HD.out HT2.out⟩
  | true =>
    have mt : mayTB t = true := by
      obtain ⟨h1, h2⟩ := getF_mem d.nd hb
      have h3 := (may_ok (d.ok _ h1).2).1
      rwa [h2] at h3
    have HDQ := Lib.hid (del_qf d.ok ot mt)
    have HMO : RowKit.Hid (MayF (delF M t)) := Lib.hid (fun x hx => d.ok x (List.mem_filter.1 hx).1)
    have HML : RowKit.Hid (((delF M t).length : Int) ≤ most) := Lib.hid (by
      have h1 := (List.filter_sublist (l := M) (p := fun f => !decide (f.t = t))).length_le
      have h2 := d.len.1
      have h3 : (delF M t).length ≤ M.length := h1
      omega)
    have HKEY := Lib.hid (fun W => fkey_any t ot W)
    have HDRP : RowKit.Hid (∀ W, QL W h.bq h.hq (M.map qf) → Calls Try.prog 27 #[.pointer (some ⟨h.bq, 0, none⟩), .string (kT t)] W fun e w' => ∃ c, e = .returned (.bool c) ∧ QLStep W w' h.bq h.hq ((delF M t).map qf)) := Lib.hid (fun W q => by
      have h1 := qdrop_any W h.bq h.hq (M.map qf) q (kT t) (kT_size _)
      rw [HDQ.out] at h1
      exact h1.mono fun e w' k => ⟨_, k⟩)
    have HG1 := Lib.hid g1
    have HI5 := Lib.hid infoTupF
    obtain ⟨K, hK⟩ : ∃ K, kT t = K := ⟨_, rfl⟩
    rw [hK] at HKEY HDRP
    obtain ⟨MD, hMD⟩ : ∃ MD, delF M t = MD := ⟨_, rfl⟩
    rw [hMD] at HMO HML HDRP
    rw [hMD]
    have HMD := Lib.hid hMD
    obtain ⟨⟨b1, b2, b3, b4, b5⟩, gb, gg, gs⟩ := F
    obtain ⟨a1, a2, a3, a4, a5⟩ := t
    simp only [fca, tcs] at *
    clear d hW1 t1 g1 hb hF ot mt hK hMD HDQ
    go_enter Try.func12, Try.ntmps12
    go_upto_region 1 with (fail)
    rw [HW1.out]
    go_upto_region 3 with (go_at_call 10; (with_reducible refine HGET.out.mono ?_); rintro e w2 ⟨rfl, t2⟩; have HT2 := Lib.hid t2; clear t2)
    obtain ⟨W3, hW3⟩ : ∃ W, w2.alloc (.cells #[.int .u32 b1, .int .u32 b2, .int .i64 b3, .int .i64 b4, .int .i64 b5, .int .i64 gb, .int .i64 gg, .int .i64 gs] 26) = W := ⟨_, rfl⟩
    have t13 : Touch W1 W3 (fun _ => False) := hW3 ▸ HT2.out.alloc _
    rw [hW3]
    have HT3 := Lib.hid (HT1.out.trans t13 (fun _ _ h => h))
    have HG3 : RowKit.Hid (W3.heap[w.heap.size]? = some (.cells #[.int .u32 a1, .int .u32 a2, .int .i64 a3, .int .i64 a4, .int .i64 a5] 24 (0, 0))) := Lib.hid (t13.keeps HG1.out (fun h => h))
    have HD3 := Lib.hid (HD.out.still HT3.out)
    have hnb : w.heap.size ≠ h.mb := fun e => by have := HD.out.map.lt; omega
    have HNB := Lib.hid hnb
    have HC3 : RowKit.Hid (∀ W, Touch W3 W (fun k => k = h.mb) → W.cell? ⟨g, 2, none⟩ = some (.map (some h.mb)) ∧ W.heap[w.heap.size]? = some (.cells #[.int .u32 a1, .int .u32 a2, .int .i64 a3, .int .i64 a4, .int .i64 a5] 24 (0, 0))) := Lib.hid (fun W x => ⟨cell_of_cells (x.keeps HD3.out.head HD.out.n1) 2, x.keeps HG3.out HNB.out⟩)
    obtain ⟨wz, hz1, hz2, hz3⟩ := (HD3.out.map.still ((Touch.refl W3 (fun _ => False)).drew)).drop ⟨a1, a2, a3, a4, a5⟩ HOT.out 0
    rw [HMD.out] at hz2
    simp only [tcs] at hz1
    have HZ1 := Lib.hid hz1
    have HZ2 := Lib.hid hz2
    have HZ3 := Lib.hid hz3
    have HZT := Lib.hid (((Touch.refl W3 (fun k => k = h.mb)).drew).trans hz3 (fun _ _ h => h))
    clear hW3 t13 hnb hz1 hz2 hz3 z0 z1 z2 z3 z4
    have hS := (Touch.refl W3 (fun k => k = h.mb)).drew
    refine wp_region_tree (fun w' => Touch W3 w' (fun k => k = h.mb)) (.take 0 (.take 1 (.take 2 (.take 3 (.take 4 (.one 5 .fin)))))) (by kernel_rfl) (by kernel_rfl) (by kernel_rfl) (by kernel_rfl) hS ?_
    refine walkT_take ?_
    (refine takeN_take (v := ?_) (some 14) rfl rfl (fun _ _ _ h => h) (by rfl) ?_ ?_; rotate_left; (focus (intro w' hw'; obtain ⟨y0, _⟩ := HC3.out w' hw'; go_simp; (try with_reducible rfl))); (try simp only [Act.put, List.setIfInBounds_toArray, List.set_cons_zero, List.set_cons_succ]))
    refine walkT_take ?_
    (refine takeN_take (v := ?_) (some 15) rfl rfl (fun _ _ _ h => h) (by rfl) ?_ ?_; rotate_left; (focus (intro w' hw'; obtain ⟨y0, _⟩ := HC3.out w' hw'; go_simp; (try with_reducible rfl))); (try simp only [Act.put, List.setIfInBounds_toArray, List.set_cons_zero, List.set_cons_succ]))
    refine walkT_take ?_
    (refine takeN_take (v := ?_) (some 16) rfl rfl (fun _ _ _ h => h) (by rfl) ?_ ?_; rotate_left; (focus (intro w' hw'; obtain ⟨y0, _⟩ := HC3.out w' hw'; go_simp; (try with_reducible rfl))); (try simp only [Act.put, List.setIfInBounds_toArray, List.set_cons_zero, List.set_cons_succ]))
    refine walkT_take ?_
    (refine takeN_take (v := ?_) (some 17) rfl rfl (fun _ _ _ h => h) (by rfl) ?_ ?_; rotate_left; (focus (intro w' hw'; obtain ⟨y0, _⟩ := HC3.out w' hw'; go_simp; (try with_reducible rfl))); (try simp only [Act.put, List.setIfInBounds_toArray, List.set_cons_zero, List.set_cons_succ]))
    refine walkT_take ?_
    (refine takeN_row (some 18) rfl rfl 24 (.tmp 3) rfl (w.heap.size) rfl _ _ _ _ (fun w' h => (HC3.out w' h).2) Try.underlying24 rfl HI5.out (fun _ _ _ h => h) (by rfl) ?_; (try simp only [Act.put, List.setIfInBounds_toArray, List.set_cons_zero, List.set_cons_succ]))
    refine walkT_one ?_
    (refine runN_do (v := .tuple #[]) (w' := wz) none rfl rfl (by rfl) (by have q := HZ1.out; go_simp; (try with_reducible rfl)) HZT.out (fun hS => ?_); (try simp only [Act.put, List.setIfInBounds_toArray, List.set_cons_zero, List.set_cons_succ]))
    refine walkT_fin ?_
    have HQZ : RowKit.Hid (QL wz h.bq h.hq (M.map qf)) := Lib.hid ((HD3.out.q.still ((Touch.refl W3 (fun _ => False)).drew)).touch HZ3.out (fun k hk e => HD.out.n3 (e ▸ hk)))
    have HC4 : RowKit.Hid (∀ W, Touch wz W (footQ h.bq h.hq) → W.cell? ⟨g, 3, none⟩ = some (.pointer (some ⟨h.bq, 0, none⟩)) ∧ W.heap[w.heap.size]? = some (.cells #[.int .u32 a1, .int .u32 a2, .int .i64 a3, .int .i64 a4, .int .i64 a5] 24 (0, 0))) := Lib.hid (fun W x => ⟨cell_of_cells (x.keeps (HZT.out.keeps HD3.out.head HD.out.n1) HD.out.n2) 3, x.keeps (HC3.out wz HZT.out).2 (fun hf => by have := HD.out.q.footlt _ hf; omega)⟩)
    clear hS
    go_upto_region 4 with (fail)
    have hS := (Touch.refl wz (footQ h.bq h.hq)).drew
    refine wp_region_sched (fun w' => Touch wz w' (footQ h.bq h.hq)) [(0, true), (1, true), (2, true), (3, true), (4, true), (5, false), (6, false)] (by kernel_rfl) (by kernel_rfl) rfl (by kernel_rfl) hS ?_
    (refine walkS_take (v := ?_) (some 19) rfl rfl (fun _ _ _ h => h) (by rfl) ?_ ?_; rotate_left; (focus (intro w' hw'; obtain ⟨y0, _⟩ := HC4.out w' hw'; go_simp; (try with_reducible rfl))); (try simp only [Act.put, List.setIfInBounds_toArray, List.set_cons_zero, List.set_cons_succ]))
    (refine walkS_take (v := ?_) (some 20) rfl rfl (fun _ _ _ h => h) (by rfl) ?_ ?_; rotate_left; (focus (intro w' hw'; obtain ⟨y0, _⟩ := HC4.out w' hw'; go_simp; (try with_reducible rfl))); (try simp only [Act.put, List.setIfInBounds_toArray, List.set_cons_zero, List.set_cons_succ]))
    (refine walkS_take (v := ?_) (some 21) rfl rfl (fun _ _ _ h => h) (by rfl) ?_ ?_; rotate_left; (focus (intro w' hw'; obtain ⟨y0, _⟩ := HC4.out w' hw'; go_simp; (try with_reducible rfl))); (try simp only [Act.put, List.setIfInBounds_toArray, List.set_cons_zero, List.set_cons_succ]))
    (refine walkS_take (v := ?_) (some 22) rfl rfl (fun _ _ _ h => h) (by rfl) ?_ ?_; rotate_left; (focus (intro w' hw'; obtain ⟨y0, _⟩ := HC4.out w' hw'; go_simp; (try with_reducible rfl))); (try simp only [Act.put, List.setIfInBounds_toArray, List.set_cons_zero, List.set_cons_succ]))
    (refine walkS_row (some 23) rfl rfl 24 (.tmp 3) rfl (w.heap.size) rfl _ _ _ _ (fun w' h => (HC4.out w' h).2) Try.underlying24 rfl HI5.out (fun _ _ _ h => h) (by rfl) ?_; (try simp only [Act.put, List.setIfInBounds_toArray, List.set_cons_zero, List.set_cons_succ]))
    (refine walkS_call 24 _ _ _ _ (HKEY.out _) rfl rfl rfl (by rfl) rfl (enter_fkey _ _) ?_; rintro e w5 ⟨rfl, t5⟩; have HTK := Lib.hid (((Touch.refl wz (fun _ => False)).drew).trans t5 (fun _ _ h => h)); refine ⟨_, rfl, hS.trans t5 (fun _ _ h => h.elim), fun hS => ?_⟩; clear t5; (try simp only [Act.put, List.setIfInBounds_toArray, List.set_cons_zero, List.set_cons_succ]))
    (refine walkS_call 25 _ _ _ _ (HDRP.out _ (HQZ.out.still HTK.out)) rfl rfl rfl (by rfl) rfl (enter_qdropF _ _ _) ?_; rintro e w6 ⟨c6, rfl, s2⟩; have HS2 := Lib.hid s2; obtain ⟨_, _, t6, _⟩ := s2; refine ⟨_, rfl, hS.trans t6 (fun _ _ h => h), fun hS => ?_⟩; clear t6; (try simp only [Act.put, List.setIfInBounds_toArray, List.set_cons_zero, List.set_cons_succ]))
    refine walkS_done ?_
    go_wp2_with fail
    go_ret
    exact ⟨rfl, HD.out.step (HT3.out.trans ((Touch.refl W3 (fun _ => False)).drew) (fun _ _ h => h)) HZ2.out HZ3.out HTK.out HS2.out (.refl _) HMO.out HML.out⟩
end Go.Proofs.Ytgmimdnebgncoaa

end

section
/- Flows: all of them: the loop; the sort is a hypothesis. Made by genflowthall.py. -/
set_option linter.unusedVariables false
set_option linter.unusedSimpArgs false
namespace Go.Proofs.Ytgmimdnebgncoaa
open Go.RowKit

def isAll (f : FlD) : Bool := true
set_option maxRecDepth 20000 in
theorem allclo_any (w : World) (f : FlD) :
    Calls Try.prog 34 #[.agg (fca f)] w fun e w' => e = .returned (.bool (isAll f)) ∧ Touch w w' (fun _ => False) := by
  unfold isAll
  obtain ⟨⟨a1, a2, a3, a4, a5⟩, fb, fg, fs⟩ := f
  simp only [fca] at *
  go_enter Try.func34, Try.ntmps34
  go_wp2_with fail
  go_ret
  exact ⟨rfl, (Touch.refl w _).alloc _⟩
set_option maxRecDepth 20000 in
set_option maxHeartbeats 8000000 in
theorem thoseall_any (R : List FlD → List FlD → Prop) (w : World) (g : Nat) (h : FH) (most idle : Int) (M : List FlD) (d : FS w g h most idle M) (hs : SortsF R (M.filter (isAll))) :
    Calls Try.prog 32 #[.pointer (some ⟨g, 0, none⟩), .func (.func 34) #[] #[]] w fun e w' => ∃ a c L L', e = .returned (.slice a L'.length c) ∧ L.Perm (M.filter (isAll)) ∧ L'.Perm L ∧ R L L' ∧ OwnS w' w.heap.size 26 8 (.slice a L'.length c) (L'.map fcl) ∧ Touch w w' (fun _ => False) := by
  obtain ⟨W1, hW1⟩ : ∃ W, w.alloc (.cells #[.slice none 0 0] 35) = W := ⟨_, rfl⟩
  have t1 : Touch w W1 (fun _ => False) := hW1 ▸ (Touch.refl w _).alloc _
  have g1 : W1.heap[w.heap.size]? = some (.cells #[.slice none 0 0] 35 (0, 0)) := hW1 ▸ heap_alloc_new ..
  have s1 : W1.heap.size = w.heap.size + 1 := by rw [← hW1]; simp
  obtain ⟨c0, c1, c2, c3⟩ := (d.still t1).cells
  have HD := Lib.hid d
  have HMAP := Lib.hid (d.still t1).map
  have HT1 := Lib.hid t1
  have HW1 := Lib.hid hW1
  have HG1 := Lib.hid g1
  have HS1 := Lib.hid s1
  have HSORT := Lib.hid hs
  have HCLO : RowKit.Hid (∀ W f, Touch w W (fun _ => False) → Calls Try.prog 34 #[.agg (fca f)] W fun e w' => e = .returned (.bool (isAll f)) ∧ Touch W w' (fun _ => False)) := Lib.hid (fun W f _ => allclo_any W f)
  clear hs d hW1 t1 g1 s1
  go_enter Try.func32, Try.ntmps32
  go_upto_region 4 with (fail)
  rw [HW1.out]
  go_wp2_with (at_range; refine wp_rangeF rfl _ rfl h.mb M rfl HMAP.out ?_; intro w2 left0 cnt0 hrg0 hsn0 t2)
  have hb2 : w2.heap[w.heap.size]? = some (.cells #[.slice none 0 0] 35 (0, 0)) := t2.keeps HG1.out (fun h => h)
  have HT2 := Lib.hid (HT1.out.trans t2 (fun _ _ h => h))
  have HZ2 := Lib.hid t2.size
  have hmb := HMAP.out.lt
  rw [HS1.out] at hrg0 ⊢
  obtain ⟨bx, hbx⟩ : ∃ bx, w.heap.size = bx := ⟨_, rfl⟩
  have HBX := Lib.hid hbx
  rw [hbx] at hb2 hrg0 ⊢
  go_loopw [15] (fun _ wr => ∃ (left : Lit → Bool) (cnt : Nat) (K : List FlD) (a : Option Addr) (c : Nat), RangesF wr h.mb (bx + 1) M left cnt ∧ K.Perm ((seenF M left).filter (isAll)) ∧ wr.heap[bx]? = some (.cells #[.slice a K.length c] 35 (0, 0)) ∧ OwnS wr (bx + 2) 26 8 (.slice a K.length c) (K.map fcl) ∧ Touch w wr (fun _ => False) ∧ K.length ≤ 256) (fun _ wr => wr.rangeLeft h.mb (bx + 1))
  case atStart => exact ⟨left0, cnt0, [], none, 0, hrg0, by rw [hsn0]; exact .refl _, hb2, OwnS.nil _ _ _ _, HT2.out, by decide⟩
  case round =>
    obtain ⟨left, cnt, K, a, c, hrg, hp, hb, ho, ht, hk⟩ := hrel
    have HRG := Lib.hid hrg
    have HP := Lib.hid hp
    have HB := Lib.hid hb
    have HO := Lib.hid ho
    have HT := Lib.hid ht
    have HK := Lib.hid hk
    clear hrg hp hb ho ht hk c0 c1 c2 c3
    go_wp2_with (at_next; refine wp_nextF rfl _ rfl h.mb (bx + 1) M left cnt rfl HRG.out ?_ ?_)
    · intro hdone
      have hpm : K.Perm (M.filter (isAll)) := by have := HP.out; rw [hdone] at this; exact this
      have hlb := cell_of_cells HB.out 0
      have HSO := Lib.hid (HSORT.out wr (bx + 2) bx a c K hpm HO.out (by omega) HB.out)
      have HPM := Lib.hid hpm
      clear hpm
      go_upto_region 10 with (go_at_call 50; (with_reducible refine HSO.out.mono ?_); rintro e w4 ⟨rfl, L', hl', hr', ho', t4⟩)
      have hb4 : w4.heap[bx]? = some (.cells #[.slice a K.length c] 35 (0, 0)) := t4.keeps HB.out (fun e => by have := (HO.out.own.lt _ e).1; omega)
      have hl4 := cell_of_cells hb4 0
      have HT4 := Lib.hid (HT.out.trans t4 (fun k hk e => by have := (HO.out.own.lt _ e).1; have := HBX.out; omega))
      have HO4 := Lib.hid ho'
      have HL4 := Lib.hid (And.intro hl' hr')
      clear hl' hr' ho' t4 hb4
      go_wp2_with fail
      go_ret
      refine ⟨a, c, K, L', by rw [HL4.out.1.length_eq]; rfl, HPM.out, HL4.out.1, HL4.out.2, ?_, HT4.out⟩
      rw [HL4.out.1.length_eq]
      exact HO4.out.rebase (fun x hx => by have := (HO4.out.own.lt x hx).1; have := HBX.out; omega)
    · intro x f left' w3 cnt3 hf hp3 hrg3 hlt3 t3 hen3
      have HEN := Lib.hid hen3
      have hen : (Instr.entry (.pointer (some ⟨bx + 1, 0, none⟩))).run Try.prog w3 = .ok (.tuple #[x, .agg #[.int .u32 f.t.src, .int .u32 f.t.dst, .int .i64 f.t.proto, .int .i64 f.t.sport, .int .i64 f.t.dport, .int .i64 f.fb, .int .i64 f.fg, .int .i64 f.fs]]) w3 := hen3
      have HF := Lib.hid hf
      have HP3 := Lib.hid hp3
      have HRG3 := Lib.hid hrg3
      have HLT3 := Lib.hid hlt3
      have HT3 := Lib.hid t3
      clear hf hp3 hrg3 hlt3 t3 hen3
      go_upto_region 7 with (fail)
      obtain ⟨w4, hw4⟩ : ∃ W, w3.alloc (.cells (fca f) 26) = W := ⟨_, rfl⟩
      have t4 : Touch w3 w4 (fun _ => False) := hw4 ▸ (Touch.refl w3 _).alloc _
      have g4 : w4.heap[w3.heap.size]? = some (.cells (fca f) 26 (0, 0)) := hw4 ▸ heap_alloc_new ..
      have s4 : w4.heap.size = w3.heap.size + 1 := by rw [← hw4]; simp
      have HW4 := Lib.hid hw4
      have HT4 := Lib.hid (HT3.out.trans t4 (fun _ _ h => h.elim))
      obtain ⟨B, hB⟩ : ∃ B, w3.heap.size = B := ⟨_, rfl⟩
      rw [hB] at g4 s4
      have HB3 := Lib.hid hB
      have HG4 := Lib.hid g4
      have HTW4 := Lib.hid (HT.out.trans HT4.out (fun k hk e => by have := HBX.out; omega))
      have hcl := HCLO.out w4 f HTW4.out
      have HS4 := Lib.hid s4
      have HRL := Lib.hid (HRG.out.lt)
      obtain ⟨x0, x1, x2, x3, x4, x5, x6, x7⟩ := fcells_of g4
      obtain ⟨b, hb⟩ : ∃ b, isAll f = b := ⟨_, rfl⟩
      rw [hb] at hcl
      have HCL := Lib.hid hcl
      have HIS := Lib.hid hb
      clear hen hw4 t4 g4 s4 hcl hb hB
      simp only [fca] at HW4 HCL
      rw [HW4.out, HB3.out]
      have HA4 : RowKit.Hid (Touch w3 w4 (fun _ => False)) := Lib.hid (by rw [← HW4.out]; exact (Touch.refl _ _).alloc _)
      have HRG4 := Lib.hid (HRG3.out.still HA4.out)
      have HB4 : RowKit.Hid (w4.heap[bx]? = some (.cells #[.slice a K.length c] 35 (0, 0))) := Lib.hid (HT4.out.keeps HB.out (fun e => by have e : bx = bx + 1 := e; omega))
      have HO4 := Lib.hid (HO.out.touch HT4.out (fun y hy e => by have := (HO.out.own.lt y hy).1; have e : y = bx + 1 := e; omega))
      cases b with
      | false =>
        have hpn : K.Perm ((seenF M left').filter (isAll)) := HP.out.trans (by
          have h1 := HP3.out.filter (isAll)
          rw [List.filter_cons, if_neg (by rw [HIS.out]; decide)] at h1
          exact h1.symm)
        have HPN := Lib.hid hpn
        clear hpn
        go_wp2_with (go_at_call 34; (with_reducible refine HCL.out.mono ?_); rintro e w5 ⟨rfl, t5⟩; have HT5 := Lib.hid t5; clear t5)
        go_roundw
        · exact ⟨left', cnt3, K, a, c, HRG4.out.still HT5.out, HPN.out, HT5.out.keeps HB4.out (fun h => h), HO4.out.still HT5.out, HTW4.out.trans HT5.out (fun _ _ h => h), HK.out⟩
        · have e1 := HRG.out.left_eq
          have e2 := (HRG4.out.still HT5.out).left_eq
          have e3 := HLT3.out
          omega
      | true =>
        have hpn : (K ++ [f]).Perm ((seenF M left').filter (isAll)) := by
          have h1 := HP3.out.filter (isAll)
          rw [List.filter_cons, if_pos HIS.out] at h1
          exact (List.perm_append_comm.trans (HP.out.cons f)).trans h1.symm
        have hkl : (K ++ [f]).length ≤ 256 := by
          have h1 := hpn.length_eq
          have h2 := (List.filter_sublist (l := seenF M left') (p := isAll)).length_le
          have h3 := (List.filter_sublist (l := M) (p := fun f => !left' (klT f.t))).length_le
          have h4 := HD.out.len
          unfold seenF at h1 h2
          omega
        have HPN := Lib.hid hpn
        have HKL := Lib.hid hkl
        have HI8 := Lib.hid infoFlow
        clear hpn hkl
        go_upto_region 8 with (go_at_call 34; (with_reducible refine HCL.out.mono ?_); rintro e w5 ⟨rfl, t5⟩; have HT5 := Lib.hid t5; clear t5)
        have HO5 := Lib.hid (HO4.out.still HT5.out)
        have HRG5 := Lib.hid (HRG4.out.still HT5.out)
        have HB5 : RowKit.Hid (w5.heap[bx]? = some (.cells #[.slice a K.length c] 35 (0, 0))) := Lib.hid (HT5.out.keeps HB4.out (fun h => h))
        have HF5 : RowKit.Hid (w5.heap[B]? = some (.cells (fca f) 26 (0, 0))) := Lib.hid (HT5.out.keeps HG4.out (fun h => h))
        have HOWN : RowKit.Hid (∀ k, (Value.slice a K.length c).ownBlock = some k → bx + 2 ≤ k ∧ k < B) := Lib.hid (fun k hk => ⟨(HO.out.own.lt k hk).1, by have h1 := (HO.out.own.lt k hk).2; have h2 := HT3.out.size; have h3 := HB3.out; omega⟩)
        have HBB : RowKit.Hid (bx + 2 ≤ B) := Lib.hid (by have := HRG3.out.lt; have := HB3.out; omega)
        have HN := Lib.hid ((Touch.refl w5 (fun _ => False)).drew)
        have HL5 := Lib.hid (heap_lt HF5.out)
        clear x0 x1 x2 x3 x4 x5 x6 x7 HSORT HCLO HCL HMAP
        obtain ⟨z0, z1, z2, z3, z4, z5, z6, z7⟩ := fcells_of HF5.out
        have zb := cell_of_cells HB5.out 0
        have HOA := Lib.hid (HO5.out.still ((Touch.refl w5 (fun _ => False)).alloc (.cells #[.int .u32 f.t.src, .int .u32 f.t.dst, .int .i64 f.t.proto, .int .i64 f.t.sport, .int .i64 f.t.dport, .int .i64 f.fb, .int .i64 f.fg, .int .i64 f.fs] 26)))
        have hbase : bx + 2 ≤ w5.heap.size := by have := HL5.out; have := HBB.out; omega
        go_wp2_with (at_builtin; (refine wp_add1 (w := w5) HOA.out rfl rfl rfl (fun u hu => one_fcl f (fcl f) List.mem_cons_self u hu) (by have := HK.out; omega) 35 Try.underlying35 _ 56 infoFlowB rfl (by decide) (by decide) hbase rfl _ _ rfl rfl rfl ?_); intro a9 c9 w9 ho9 t9 p9; have HO9 := Lib.hid ho9; have HT9 := Lib.hid t9; clear ho9 t9 p9 z0 z1 z2 z3 z4 z5 z6 z7 zb; have HB9 := Lib.hid (HT9.out.keeps HB5.out (fun e => by have := (HOWN.out _ e).1; omega)); have cc := cell_of_cells HB9.out 0; have ff := free_of_cells HB9.out 0)
        go_roundw
        · have ts : Touch w9 (w9.setCell ⟨bx, 0, none⟩ (.slice a9 (K.length + 1) c9)) (fun k => k = bx) := (Touch.refl w9 (fun k => k = bx)).setCell _ _ (fun _ => rfl)
          have tz := (HT9.out.mono (T := fun k => (Value.slice a K.length c).ownBlock = some k ∨ k = bx) (fun _ _ h => .inl h)).trans ts (fun _ _ h => .inr h)
          have hrz := HRG5.out.touch tz (fun e => e.elim (fun e => by have h1 := (HOWN.out _ e).1; have h2 := HD.out.map.lt; have h3 := HBX.out; omega) (fun e => by have h2 := HD.out.map.lt; have h3 := HBX.out; omega)) (fun e => e.elim (fun e => by have h1 := (HOWN.out _ e).1; omega) (fun e => by omega))
          refine ⟨left', cnt3, K ++ [f], a9, c9, hrz, HPN.out, ?_, ?_, ?_, HKL.out⟩
          · rw [List.length_append]
            exact heap_setCell_same w9 bx 0 _ _ _ HB9.out
          · rw [List.length_append, List.map_append]
            exact HO9.out.touch ts (fun y hy e => by have := (HO9.out.own.lt y hy).1; have e : y = bx := e; omega)
          · exact (HTW4.out.trans HT5.out (fun _ _ h => h)).trans tz (fun k hk e => e.elim (fun e => by have := (HOWN.out _ e).1; have := HBX.out; omega) (fun e => by have := HBX.out; omega))
        · have ts : Touch w9 (w9.setCell ⟨bx, 0, none⟩ (.slice a9 (K.length + 1) c9)) (fun k => k = bx) := (Touch.refl w9 (fun k => k = bx)).setCell _ _ (fun _ => rfl)
          have tz := (HT9.out.mono (T := fun k => (Value.slice a K.length c).ownBlock = some k ∨ k = bx) (fun _ _ h => .inl h)).trans ts (fun _ _ h => .inr h)
          have hrz := HRG5.out.touch tz (fun e => e.elim (fun e => by have h1 := (HOWN.out _ e).1; have h2 := HD.out.map.lt; have h3 := HBX.out; omega) (fun e => by have h2 := HD.out.map.lt; have h3 := HBX.out; omega)) (fun e => e.elim (fun e => by have h1 := (HOWN.out _ e).1; omega) (fun e => by omega))
          have e1 := HRG.out.left_eq
          have e2 := hrz.left_eq
          have e3 := HLT3.out
          rw [e1, e2]
          exact e3
end Go.Proofs.Ytgmimdnebgncoaa

end
