/- Manifests: what the page's DecodeManifest answers. -/
import Derived.Test.YtibpnlhdpdfhiaaDoorManDecZ
import Derived.Test.YtibpnlhdpdfhiaaDoorFrmRTakeZ
import Derived.Test.YtibpnlhdpdfhiaaDoorRecRfZ
set_option linter.unusedVariables false
set_option linter.unusedSimpArgs false
namespace Go.Proofs.YtibpnlhdpdfhiaaDoor
open Go.RowKit

set_option maxRecDepth 20000 in
theorem enter_fU32 (u : Value) (w : World) : (callFunc 49 #[u]).run Tryd.prog w = .ok (.enter 49 #[u]) w := by kernel_rfl
theorem wholeM_iff (xs : List Nat) : wholeM xs = true ↔ 6 + 4 * cntM xs = xs.length := by
  unfold wholeM endM endOf nxtX nxtE
  rw [beq_iff_eq]
  by_cases h : 6 + 4 * cntM xs ≤ xs.length
  · rw [if_pos h, if_pos h, if_pos rfl, List.length_drop]
    by_cases h2 : xs.length - (6 + 4 * cntM xs) = 0
    · rw [if_pos h2]; omega
    · rw [if_neg h2]; omega
  · rw [if_neg h, if_neg h, if_neg (by decide)]; omega
/-- Where the reading of the segments is. -/
structure RBodyAt (w W1 W3 : World) (M : Nat) (v : Int) (ys : List Nat) (i : Value) (wr : World) (k : Nat) (a' : Option Addr) (c' : Nat) : Prop where
  le : k ≤ cntM ys
  ix : i = .int .i64 k
  hm : wr.heap[M]? = some (.cells (mcs v (valN 4 ys : Nat) a' k c') 24 (0, 0))
  hz : wr.heap[w.heap.size]? = some (.cells (mcs 0 0 none 0 0) 24 (0, 0))
  rd : RfD wr W3.heap.size (fun k => k < W1.heap.size ∨ W3.heap.size < k) (nxtX (6 + 4 * k) ys) (nxtE (6 + 4 * k) ys 0)
  ow : OwnS wr (M + 1) 3 1 (.slice a' k c') ((segsV k (nxtX 6 ys)).map oneI)
  tt : Touch w wr (fun _ => False)

set_option maxRecDepth 20000 in
set_option maxHeartbeats 8000000 in
theorem rmdec_any (a : Option Addr) (len cap : Nat) (xs : List Nat) (w : World) (hr : RowB w a len cap xs) (hlen : len ≤ 140737488355328) :
    Calls Tryd.prog 20 #[.slice a len cap] w fun e w' => DecMIs w w' xs e := by
  have hxl := hr.1
  have hcap := hr.2.2.1
  have hcap1 := hr.2.1
  have hsm := hr.2.2.2.2.1
  obtain ⟨W1, hW1⟩ : ∃ W, w.alloc (.cells (mcs 0 0 none 0 0) 24) = W := ⟨_, rfl⟩
  have t1 : Touch w W1 (fun _ => False) := hW1 ▸ (Touch.refl _ _).alloc _
  have hz1 : W1.heap[w.heap.size]? = some (.cells (mcs 0 0 none 0 0) 24 (0, 0)) := hW1 ▸ heap_alloc_new w _
  have HTK := Lib.hid (rtake_any a len cap xs W1 (hr.touch t1 (fun _ _ => .inr (fun h => h))) hlen)
  have HZ := Lib.hid hz1
  have HZ1 := Lib.hid hz1
  have HT1 := Lib.hid t1
  have HIM := Lib.hid infoManB
  have HIF := Lib.hid infoF
  have HXL := Lib.hid hxl
  have HSM := Lib.hid hsm
  simp only [mcs] at hW1
  have HW1 := Lib.hid hW1
  clear hr t1 hz1 hW1 hsm hxl
  go_enter Tryd.func20, Tryd.ntmps20
  go_upto_region 1 with (fail)
  rw [HW1.out]
  go_upto_region 2 with (go_at_call 48; (with_reducible refine HTK.out.mono ?_); rintro e w2 ⟨a2, c2, rfl, hf2⟩; simp only [fcs]; have HZ := Lib.hid (hf2.2.keeps HZ.out (fun h => h)); have HRB := Lib.hid hf2.row'.2; have HOF : RowKit.Hid (∀ x, a2 = some x → W1.heap.size ≤ x.block ∧ x.block < w2.heap.size) := Lib.hid (fun x hx => hf2.1.own.lt x.block (by rw [hx]; rfl)); have HT2 := Lib.hid hf2.2; clear hf2)
  obtain ⟨W3, hW3⟩ : ∃ W, w2.alloc (.cells (fcs (tkK xs : Nat) (tkV xs : Nat) a2 (tkY xs).length c2) 33) = W := ⟨_, rfl⟩
  have t3 : Touch w2 W3 (fun _ => False) := hW3 ▸ (Touch.refl _ _).alloc _
  have hf3 : W3.heap[w2.heap.size]? = some (.cells (fcs (tkK xs : Nat) (tkV xs : Nat) a2 (tkY xs).length c2) 33 (0, 0)) := hW3 ▸ heap_alloc_new w2 _
  have HZ := Lib.hid (t3.keeps HZ.out (fun h => h))
  have HRB := Lib.hid (HRB.out.touch t3 (fun _ _ => .inr (fun h => h)))
  have HT3 := Lib.hid ((HT1.out.trans HT2.out (fun _ _ h => h)).trans t3 (fun _ _ h => h))
  have HSZ : RowKit.Hid (w.heap.size < w2.heap.size ∧ w2.heap.size < W3.heap.size) := Lib.hid ⟨by have h1 : w.heap.size < W1.heap.size := (by rw [← HW1.out]; simp); exact Nat.lt_of_lt_of_le h1 HT2.out.size, by rw [← hW3]; simp⟩
  have HF3 : RowKit.Hid (W3.heap[w2.heap.size]? = some (.cells #[.int .i64 (tkK xs : Nat), .int .i64 (tkV xs : Nat), .slice a2 (tkY xs).length c2] 33 (0, 0))) := Lib.hid hf3
  have HC3 : RowKit.Hid (W3.cell? ⟨w2.heap.size, 0, none⟩ = some (.int .i64 (tkK xs : Nat)) ∧ W3.cell? ⟨w2.heap.size, 1, none⟩ = some (.int .i64 (tkV xs : Nat)) ∧ W3.cell? ⟨w2.heap.size, 2, none⟩ = some (.slice a2 (tkY xs).length c2)) := Lib.hid ⟨cell_of_cells hf3 0, cell_of_cells hf3 1, cell_of_cells hf3 2⟩
  simp only [fcs] at hW3
  rw [hW3]
  clear t3 hf3 hW3 HW1 HTK
  obtain ⟨c0, c1, c3⟩ := HC3.out
  by_cases he : tkE xs = 0
  case neg =>
    have hb : ((tkE xs : Int) != 0) = true := bne_iff_ne.2 (by omega)
    have HD := Lib.hid (dm_take he)
    have HE := Lib.hid he
    clear he
    generalize tkE xs = E at *
    go_wp2_with ((refine store_row rfl 24 (.tmp 2) (.tmp 17) rfl w.heap.size (mcs 0 0 none 0 0) rfl rfl _ _ HZ.out HIM.out rfl rfl ?_))
    refine ret_row1 rfl rfl w.heap.size _ _ _ _ rfl (setRow_heap _ _ _ _ _ _ HZ.out) Tryd.underlying24 rfl HIM.out _ rfl ?_
    exact DecMIs.bad HD.out HE.out (HT3.out.setRow _ _ (fun h => absurd h (Nat.lt_irrefl _)))
  case pos =>
  have hb : ((tkE xs : Int) != 0) = false := bne_eq_false_iff_eq.2 (by omega)
  have hml := tk_len he
  have HE := Lib.hid he
  have hmle : tkM xs ≤ len := by rw [hml.1, ← HXL.out]; exact hml.2
  have HFM := Lib.hid (dm_form he)
  by_cases hm : tkM xs = len
  case neg =>
    have HD := Lib.hid (HFM.out (.inl (by rw [HXL.out]; exact hm)))
    have hlt : ((tkM xs : Int) != len) = true := bne_iff_ne.2 (by omega)
    clear HFM he hml
    go_wp2_with ((refine store_row rfl 24 (.tmp 2) (.tmp 28) rfl w.heap.size (mcs 0 0 none 0 0) rfl rfl _ _ HZ.out HIM.out rfl rfl ?_))
    refine ret_row1 rfl rfl w.heap.size _ _ _ _ rfl (setRow_heap _ _ _ _ _ _ HZ.out) Tryd.underlying24 rfl HIM.out _ rfl ?_
    exact DecMIs.bad HD.out (by decide) (HT3.out.setRow _ _ (fun h => absurd h (Nat.lt_irrefl _)))
  case pos =>
  have hlt : ((tkM xs : Int) != len) = false := bne_eq_false_iff_eq.2 (by omega)
  by_cases hk : tkK xs = 100
  case neg =>
    have HD := Lib.hid (HFM.out (.inr hk))
    have hb2 : ((tkK xs : Int) != 100) = true := bne_iff_ne.2 (by omega)
    clear HFM he hml
    go_wp2_with ((refine store_row rfl 24 (.tmp 2) (.tmp 28) rfl w.heap.size (mcs 0 0 none 0 0) rfl rfl _ _ HZ.out HIM.out rfl rfl ?_))
    refine ret_row1 rfl rfl w.heap.size _ _ _ _ rfl (setRow_heap _ _ _ _ _ _ HZ.out) Tryd.underlying24 rfl HIM.out _ rfl ?_
    exact DecMIs.bad HD.out (by decide) (HT3.out.setRow _ _ (fun h => absurd h (Nat.lt_irrefl _)))
  case pos =>
  have hb2 : ((tkK xs : Int) != 100) = false := bne_eq_false_iff_eq.2 (by omega)
  have HMX : RowKit.Hid (tkM xs = xs.length) := Lib.hid (by rw [HXL.out]; exact hm)
  have HK := Lib.hid hk
  cases hv : manV (tkV xs) with
  | false =>
    have HD := Lib.hid (dm_ver HE.out HMX.out HK.out hv)
    have HV : RowKit.Hid (∀ W, Calls Tryd.prog 43 #[.int .i64 (tkV xs : Nat)] W fun e w' => e = .returned (.bool false) ∧ W = w') := Lib.hid (fun W => by have := rmanV_any (tkV xs) W; rwa [hv] at this)
    clear HFM he hml hm hk hv hmle
    go_wp2_with (first | (refine store_row rfl 24 (.tmp 2) (.tmp 33) rfl w.heap.size (mcs 0 0 none 0 0) rfl rfl _ _ HZ.out HIM.out rfl rfl ?_) | (go_at_call 43; (with_reducible refine (HV.out _).mono ?_); rintro e w9 ⟨rfl, rfl⟩))
    refine ret_row1 rfl rfl w.heap.size _ _ _ _ rfl (setRow_heap _ _ _ _ _ _ HZ.out) Tryd.underlying24 rfl HIM.out _ rfl ?_
    exact DecMIs.bad HD.out (by decide) (HT3.out.setRow _ _ (fun h => absurd h (Nat.lt_irrefl _)))
  | true =>
    have HGD := Lib.hid (dm_good HE.out HMX.out HK.out hv)
    have HBD := Lib.hid (dm_bad HE.out HMX.out HK.out hv)
    have HV : RowKit.Hid (∀ W, Calls Tryd.prog 43 #[.int .i64 (tkV xs : Nat)] W fun e w' => e = .returned (.bool true) ∧ W = w') := Lib.hid (fun W => by have := rmanV_any (tkV xs) W; rwa [hv] at this)
    have hy : (tkY xs).length ≤ 140737488355328 := by
      have e9 : tkY xs = (xs.take (16 + tkN xs)).drop 16 := by unfold tkY; rw [if_pos HE.out]
      have h9 := Nat.min_le_right (16 + tkN xs) xs.length
      rw [e9, List.length_drop, List.length_take, HXL.out]
      rw [HXL.out] at h9
      omega
    have HRL := Lib.hid (readM_length (tkY xs))
    have HWI := Lib.hid (wholeM_iff (tkY xs))
    have HYS := Lib.hid HRB.out.2.2.2.2.1
    clear HFM he hml hm hk hv hmle
    obtain ⟨v, hvv⟩ : ∃ v : Int, ((tkV xs : Nat) : Int) = v := ⟨_, rfl⟩
    obtain ⟨ys, hys⟩ : ∃ ys, tkY xs = ys := ⟨_, rfl⟩
    rw [hys] at HRB HGD HBD HRL HWI HYS hy c3
    rw [hvv] at HGD HBD HV c1
    have HVV := Lib.hid hvv
    have HYY := Lib.hid hys
    clear hvv hys HC3 HF3
    go_upto_region 9 with (go_at_call 43; (with_reducible refine (HV.out _).mono ?_); rintro e w9 ⟨rfl, rfl⟩)
    obtain ⟨W5, hW5⟩ : ∃ W, W3.alloc (.cells #[.slice a2 ys.length c2, .int .i64 0] 76) = W := ⟨_, rfl⟩
    have t5 : Touch W3 W5 (fun _ => False) := hW5 ▸ (Touch.refl _ _).alloc _
    have HS5 : RowKit.Hid (W5.heap.size = W3.heap.size + 1) := Lib.hid (by rw [← hW5]; simp)
    have HSZ1 : RowKit.Hid (w.heap.size < W1.heap.size ∧ W1.heap.size ≤ w2.heap.size) := Lib.hid ⟨heap_lt HZ1.out, HT2.out.size⟩
    have HRD : RowKit.Hid (RfD W5 W3.heap.size (fun k => k < W1.heap.size ∨ W3.heap.size < k) ys 0) := Lib.hid (by
      have h1 := HSZ.out; have h2 := HSZ1.out
      refine ⟨fun h => by rcases h with h | h <;> omega, .inl rfl, hy, a2, c2, ⟨hW5 ▸ heap_alloc_new W3 _, HRB.out.touch t5 (fun _ _ => .inr (fun h => h)), fun x hx => .inr (by have := HOF.out x hx; omega)⟩, fun x hx => .inr (fun h => by have := HOF.out x hx; rcases h with h | h <;> omega)⟩)
    have HZ := Lib.hid (t5.keeps HZ.out (fun h => h))
    have HT5 := Lib.hid (HT3.out.trans t5 (fun _ _ h => h))
    have HCB : RowKit.Hid (∀ W, Touch W5 W (fun k => k = W3.heap.size) → W.cell? ⟨w2.heap.size, 1, none⟩ = some (.int .i64 v)) := Lib.hid (fun W t => by
      have h1 := HSZ.out
      have h2 := t5.cell (p := ⟨w2.heap.size, 1, none⟩) (by show w2.heap.size < W3.heap.size; omega) (fun h => h)
      have h3 := t.cell (p := ⟨w2.heap.size, 1, none⟩) (by show w2.heap.size < W5.heap.size; have := HS5.out; omega) (fun e => by have e : w2.heap.size = W3.heap.size := e; omega)
      rw [h3, h2, c1])
    have hv4 := valN4 ys HYS.out
    have hc2 : cntM ys < 65536 := valN2 _ (nxtX_small 4 ys HYS.out)
    have HWV : RowKit.Hid (IntKind.i64.wrap (valN 4 ys : Nat) = (valN 4 ys : Nat)) := Lib.hid (by rw [IntKind.wrap_i64]; omega)
    rw [hW5]
    clear t5 hW5 c0 c1 c3 HV
    go_cut [8] (fun s8 wx => ∃ M, s8 = .pointer (some ⟨M, 0, none⟩) ∧ W5.heap.size ≤ M ∧ M < wx.heap.size ∧ wx.heap[M]? = some (.cells (mcs v (valN 4 ys : Nat) none 0 0) 24 (0, 0)) ∧ RfD wx W3.heap.size (fun k => k < W1.heap.size ∨ W3.heap.size < k) (nxtX 4 ys) (nxtE 4 ys 0) ∧ Touch W5 wx (fun k => k = W3.heap.size))
    case first =>
      go_wp2_with fail
      have HRD := Lib.hid (HRD.out.still ((Touch.refl W5 (fun _ => False)).drew))
      have hS := (Touch.refl W5 (fun k => k = W3.heap.size)).drew
      refine wp_region_tree (fun w' => Touch W5 w' (fun k => k = W3.heap.size)) (.take 0 (.take 1 (.take 2 (.two 3 6 (.take 4 (.take 5 (.one 6 (.one 7 .fin)))) (.one 3 (.take 4 (.take 5 (.one 7 .fin)))))))) (by kernel_rfl) (by kernel_rfl) (by kernel_rfl) (by kernel_rfl) hS ?_
      refine walkT_take ?_
      (refine takeN_take (v := ?_) (some 38) rfl rfl (fun _ _ _ h => h) (by rfl) ?_ ?_; rotate_left; (focus (intro w' hw'; have c1 := HCB.out w' hw'; have hwv := HWV.out; go_simp; (try with_reducible rfl))); (try simp only [Act.put, List.setIfInBounds_toArray, List.set_cons_zero, List.set_cons_succ]))
      refine walkT_take ?_
      (refine takeN_take (v := ?_) (some 39) rfl rfl (fun _ _ _ h => h) (by rfl) ?_ ?_; rotate_left; (focus (intro w' hw'; have c1 := HCB.out w' hw'; have hwv := HWV.out; go_simp; (try with_reducible rfl))); (try simp only [Act.put, List.setIfInBounds_toArray, List.set_cons_zero, List.set_cons_succ]))
      refine walkT_take ?_
      (refine takeN_take (v := ?_) (some 40) rfl rfl (fun _ _ _ h => h) (by rfl) ?_ ?_; rotate_left; (focus (intro w' hw'; have c1 := HCB.out w' hw'; have hwv := HWV.out; go_simp; (try with_reducible rfl))); (try simp only [Act.put, List.setIfInBounds_toArray, List.set_cons_zero, List.set_cons_succ]))
      refine walkT_two ?_ ?_
      · (refine runN_call 41 _ _ _ _ (d_fU32 W3.heap.size _ ys 0 _ HRD.out) rfl rfl rfl (by rfl) rfl (enter_fU32 _ _) ?_; rintro e w8 ⟨rfl, hrd, ht⟩; have hS := hS.trans ht (fun _ _ h => h); refine ⟨_, rfl, hS, fun _ => ?_⟩; have HRD := Lib.hid hrd; (try have HM := Lib.hid (ht.keeps HM.out (fun e => by have := HS5.out; have e : W5.drew.heap.size = W3.heap.size := e; have h9 : W5.drew.heap.size = W5.heap.size := rfl; omega))); clear hrd ht; (try simp only [Act.put, List.setIfInBounds_toArray, List.set_cons_zero, List.set_cons_succ]))
        refine walkT_take ?_
        (refine takeN_take (v := ?_) (some 42) rfl rfl (fun _ _ _ h => h) (by rfl) ?_ ?_; rotate_left; (focus (intro w' hw'; have c1 := HCB.out w' hw'; have hwv := HWV.out; go_simp; (try with_reducible rfl))); (try simp only [Act.put, List.setIfInBounds_toArray, List.set_cons_zero, List.set_cons_succ]))
        refine walkT_take ?_
        (refine takeN_take (v := ?_) (some 43) rfl rfl (fun _ _ _ h => h) (by rfl) ?_ ?_; rotate_left; (focus (intro w' hw'; have c1 := HCB.out w' hw'; have hwv := HWV.out; go_simp; (try with_reducible rfl))); (try simp only [Act.put, List.setIfInBounds_toArray, List.set_cons_zero, List.set_cons_succ]))
        refine walkT_one ?_
        (have hZ := hS.size; refine runN_new 8 (fun W => .pointer (some ⟨W.heap.size, 0, none⟩)) #[.int .i64 0, .int .i64 0, .slice none 0 0] 24 rfl rfl (by rfl) (by intro W; go_simp <;> first | with_reducible rfl | rfl | exact ⟨rfl, rfl⟩) ?_; intro w7 hw7 hM7 hs7 t7; have hS := hS.trans (t7.mono (fun _ _ h => h.elim)) (fun _ _ h => h); refine ⟨hS, fun _ => ?_⟩; clear hw7; have HM := Lib.hid hM7; have HRD := Lib.hid (HRD.out.still t7); clear hM7; (try simp only [Act.put, List.setIfInBounds_toArray, List.set_cons_zero, List.set_cons_succ]))
        refine walkT_one ?_
        (refine runN_store rfl rfl (by rfl) 24 _ _ rfl _ #[.int .i64 v, .int .i64 (valN 4 ys : Nat), .slice none 0 0] rfl rfl _ _ HM.out HIM.out rfl rfl ?_; intro w6 hM6 ht; refine ⟨hS.trans ht (fun k hk h => by have e : k = _ := h; omega), fun hS => ?_⟩; have HRD := Lib.hid (HRD.out.touch ht (fun k hk h => .inr (by have := HS5.out; have e : k = _ := h; omega))); (try simp only [Act.put, List.setIfInBounds_toArray, List.set_cons_zero, List.set_cons_succ]))
        refine walkT_fin ?_
        go_wp2_with fail
        go_meet
        exact ⟨_, rfl, hZ, heap_lt hM6, hM6, HRD.out, hS⟩
      · (have hZ := hS.size; refine runN_new 8 (fun W => .pointer (some ⟨W.heap.size, 0, none⟩)) #[.int .i64 0, .int .i64 0, .slice none 0 0] 24 rfl rfl (by rfl) (by intro W; go_simp <;> first | with_reducible rfl | rfl | exact ⟨rfl, rfl⟩) ?_; intro w7 hw7 hM7 hs7 t7; have hS := hS.trans (t7.mono (fun _ _ h => h.elim)) (fun _ _ h => h); refine ⟨hS, fun _ => ?_⟩; clear hw7; have HM := Lib.hid hM7; have HRD := Lib.hid (HRD.out.still t7); clear hM7; (try simp only [Act.put, List.setIfInBounds_toArray, List.set_cons_zero, List.set_cons_succ]))
        refine walkT_one ?_
        (refine runN_call 41 _ _ _ _ (d_fU32 W3.heap.size _ ys 0 _ HRD.out) rfl rfl rfl (by rfl) rfl (enter_fU32 _ _) ?_; rintro e w8 ⟨rfl, hrd, ht⟩; have hS := hS.trans ht (fun _ _ h => h); refine ⟨_, rfl, hS, fun _ => ?_⟩; have HRD := Lib.hid hrd; (try have HM := Lib.hid (ht.keeps HM.out (fun e => by have := HS5.out; have e : W5.drew.heap.size = W3.heap.size := e; have h9 : W5.drew.heap.size = W5.heap.size := rfl; omega))); clear hrd ht; (try simp only [Act.put, List.setIfInBounds_toArray, List.set_cons_zero, List.set_cons_succ]))
        refine walkT_take ?_
        (refine takeN_take (v := ?_) (some 42) rfl rfl (fun _ _ _ h => h) (by rfl) ?_ ?_; rotate_left; (focus (intro w' hw'; have c1 := HCB.out w' hw'; have hwv := HWV.out; go_simp; (try with_reducible rfl))); (try simp only [Act.put, List.setIfInBounds_toArray, List.set_cons_zero, List.set_cons_succ]))
        refine walkT_take ?_
        (refine takeN_take (v := ?_) (some 43) rfl rfl (fun _ _ _ h => h) (by rfl) ?_ ?_; rotate_left; (focus (intro w' hw'; have c1 := HCB.out w' hw'; have hwv := HWV.out; go_simp; (try with_reducible rfl))); (try simp only [Act.put, List.setIfInBounds_toArray, List.set_cons_zero, List.set_cons_succ]))
        refine walkT_one ?_
        (refine runN_store rfl rfl (by rfl) 24 _ _ rfl _ #[.int .i64 v, .int .i64 (valN 4 ys : Nat), .slice none 0 0] rfl rfl _ _ HM.out HIM.out rfl rfl ?_; intro w6 hM6 ht; refine ⟨hS.trans ht (fun k hk h => by have e : k = _ := h; omega), fun hS => ?_⟩; have HRD := Lib.hid (HRD.out.touch ht (fun k hk h => .inr (by have := HS5.out; have e : k = _ := h; omega))); (try simp only [Act.put, List.setIfInBounds_toArray, List.set_cons_zero, List.set_cons_succ]))
        refine walkT_fin ?_
        go_wp2_with fail
        go_meet
        exact ⟨_, rfl, hZ, heap_lt hM6, hM6, HRD.out, hS⟩

    case rest =>
      obtain ⟨M, rfl, hM0, hM1, hm, hrd, ht⟩ := hcut
      have HM := Lib.hid hm
      have HRD := Lib.hid hrd
      have HMG : RowKit.Hid (M ≠ W3.heap.size ∧ w.heap.size ≠ W3.heap.size ∧ M ≠ w.heap.size ∧ w.heap.size ≤ W3.heap.size ∧ w.heap.size < M ∧ W3.heap.size < M) := Lib.hid (by have := HSZ.out; have := HSZ1.out; have := HS5.out; omega)
      have HZ := Lib.hid (ht.keeps HZ.out (fun e => HMG.out.2.1 e))
      have HTT := Lib.hid (HT5.out.trans ht (fun k hk e => by have := HMG.out; have := HSZ1.out; have := HSZ.out; have e : k = W3.heap.size := e; omega))
      clear hM0 hM1 hm hrd ht
      go_wp2_with (go_at_call 50; (with_reducible refine (d_fU16 W3.heap.size _ _ _ _ HRD.out).mono ?_); rintro e w8 ⟨rfl, hrd, ht⟩; have HRD := Lib.hid hrd; have HM := Lib.hid (ht.keeps HM.out (fun e => HMG.out.1 e)); have HZ := Lib.hid (ht.keeps HZ.out (fun e => HMG.out.2.1 e)); have HTT := Lib.hid (HTT.out.trans ht (fun k hk e => by have := HMG.out; have e : k = W3.heap.size := e; omega)); clear hrd ht)
      have hcn : valN 2 (nxtX 4 ys) = cntM ys := rfl
      rw [hcn]
      rw [nxtX_nxtX, nxtE_nxtE] at HRD
      clear hcn
      go_loopw [46] (fun i wr => ∃ k a' c', RBodyAt w W1 W3 M v ys i wr k a' c') (fun i _ => cntM ys - (intOf i).toNat)
      case atStart => exact ⟨0, none, 0, ⟨Nat.zero_le _, rfl, HM.out, HZ.out, HRD.out, OwnS.nil _ _ _ _, HTT.out⟩⟩
      case round =>
        obtain ⟨q, a1, c1, hk, rfl, hm, hz, hrd, how, ht⟩ := hrel
        have HM := Lib.hid hm
        have HZ := Lib.hid hz
        have HRD := Lib.hid hrd
        have HOW := Lib.hid how
        have HTT := Lib.hid ht
        clear hm hz hrd how ht
        have HIM6 : RowKit.Hid ((Tryd.prog.info? 24).map (·.size) = some 3) := Lib.hid infoManB
        by_cases hlt : q < cntM ys
        case neg =>
          obtain rfl : q = cntM ys := by omega
          have hlt' : ¬ (cntM ys : Int) < cntM ys := by omega
          have HRI : RowKit.Hid (RowI wr a1 (cntM ys) c1 (readM ys)) := Lib.hid (ownS_rowI HOW.out (fun z hz => by have := segsV_bound _ _ (nxtX_small 6 ys HYS.out) z hz; omega))
          have HAB2 : RowKit.Hid (∀ x, a1 = some x → w.heap.size < x.block) := Lib.hid (fun x hx => by have h1 := (HOW.out.row'.2.2 x hx).1; have h2 := HMG.out; omega)
          have HEN := Lib.hid (d_fEnd W3.heap.size _ _ _ wr HRD.out)
          have HMA := Lib.hid (rmmay_any v (valN 4 ys : Nat) a1 (cntM ys) c1 (readM ys) wr HRI.out)
          have HM6 : RowKit.Hid (wr.heap[M]? = some (.cells #[.int .i64 v, .int .i64 (valN 4 ys : Nat), .slice a1 (cntM ys) c1] 24 (0, 0))) := Lib.hid HM.out
          have hee : endOf (nxtX (6 + 4 * cntM ys) ys).length (nxtE (6 + 4 * cntM ys) ys 0) = endM ys := rfl
          rw [hee] at HEN
          clear hee HM HOW HRD
          cases hw : wholeM ys with
          | false =>
            have HD := Lib.hid (HBD.out (fun h => by rw [hw] at h; cases h.1))
            have hb9 : (endM ys != 0) = true := bne_iff_ne.2 (fun e => by unfold wholeM at hw; rw [e] at hw; cases hw)
            generalize endM ys = E9 at *
            clear HGD HBD hw HWI
            go_wp2_with (first | (refine store_row rfl 24 (.tmp 2) (.tmp 70) rfl w.heap.size (mcs 0 0 none 0 0) rfl rfl _ _ HZ.out HIM.out rfl rfl ?_) | (go_at_call 51; (with_reducible refine HEN.out.mono ?_); rintro e w9 ⟨rfl, h9⟩; obtain rfl := h9.symm))
            refine ret_row1 rfl rfl w.heap.size _ _ _ _ rfl (setRow_heap _ _ _ _ _ _ HZ.out) Tryd.underlying24 rfl HIM.out _ rfl ?_
            exact DecMIs.bad HD.out (by decide) (HTT.out.setRow _ _ (fun h => absurd h (Nat.lt_irrefl _)))
          | true =>
            have hb9 : (endM ys != 0) = false := bne_eq_false_iff_eq.2 (by unfold wholeM at hw; exact beq_iff_eq.1 hw)
            generalize endM ys = E9 at *
            cases hm : mayM v (valN 4 ys : Nat) (readM ys) with
            | false =>
              have HD := Lib.hid (HBD.out (fun h => by rw [hm] at h; cases h.2))
              rw [hm] at HMA
              clear HGD HBD hw hm HWI
              go_wp2_with (first | (refine store_row rfl 24 (.tmp 2) (.tmp 70) rfl w.heap.size (mcs 0 0 none 0 0) rfl rfl _ _ HZ.out HIM.out rfl rfl ?_) | (go_at_call 51; (with_reducible refine HEN.out.mono ?_); rintro e w9 ⟨rfl, h9⟩; obtain rfl := h9.symm) | (refine load_rowG rfl 24 (.tmp 8) rfl M rfl _ _ _ _ HM6.out Tryd.underlying24 rfl HIM6.out ?_) | (go_at_call 14; (with_reducible refine HMA.out.mono ?_); rintro e w7 ⟨rfl, t7⟩; have HZ := Lib.hid (t7.keeps HZ.out (fun h => h)); have HM6 := Lib.hid (t7.keeps HM6.out (fun h => h)); have HRI := Lib.hid (HRI.out.keep t7); have HT7 := Lib.hid (HTT.out.trans t7 (fun _ _ h => h)); clear t7))
              refine ret_row1 rfl rfl w.heap.size _ _ _ _ rfl (setRow_heap _ _ _ _ _ _ HZ.out) Tryd.underlying24 rfl HIM.out _ rfl ?_
              exact DecMIs.bad HD.out (by decide) (HT7.out.setRow _ _ (fun h => absurd h (Nat.lt_irrefl _)))
            | true =>
              have HD := Lib.hid (HGD.out ⟨hw, hm⟩)
              rw [hm] at HMA
              clear HGD HBD hw hm HWI
              generalize hN : valN 4 ys = N at *
              generalize hZ9 : readM ys = Z at *
              generalize cntM ys = L at *
              have HNN := Lib.hid hN
              have HZZ := Lib.hid hZ9
              clear hN hZ9
              go_wp2_with (first | (refine store_row rfl 24 (.tmp 2) (.tmp 71) rfl w.heap.size (mcs v N a1 L c1) rfl rfl _ _ HZ.out HIM.out rfl rfl ?_) | (go_at_call 51; (with_reducible refine HEN.out.mono ?_); rintro e w9 ⟨rfl, h9⟩; obtain rfl := h9.symm) | (refine load_rowG rfl 24 (.tmp 8) rfl M rfl _ _ _ _ HM6.out Tryd.underlying24 rfl HIM6.out ?_) | (go_at_call 14; (with_reducible refine HMA.out.mono ?_); rintro e w7 ⟨rfl, t7⟩; have HZ := Lib.hid (t7.keeps HZ.out (fun h => h)); have HM6 := Lib.hid (t7.keeps HM6.out (fun h => h)); have HRI := Lib.hid (HRI.out.keep t7); have HT7 := Lib.hid (HTT.out.trans t7 (fun _ _ h => h)); clear t7) | (refine wpList_load_row rfl 24 (.tmp 8) rfl M rfl _ _ _ _ HM6.out Tryd.underlying24 rfl HIM6.out ?_))
              refine ret_row1 rfl rfl w.heap.size _ _ _ _ rfl (setRow_heap _ _ _ _ _ _ HZ.out) Tryd.underlying24 rfl HIM.out _ rfl ?_
              refine DecMIs.good HD.out HVV.out (by rw [HYY.out]; exact HNN.out) (by rw [HYY.out]; exact HZZ.out) HRL.out ?_ (fun x hx => Nat.le_of_lt (HAB2.out x hx)) (HT7.out.setRow _ _ (fun h => absurd h (Nat.lt_irrefl _)))
              exact HRI.out.touch' ((Touch.refl _ (fun k => k = w.heap.size)).setRow w.heap.size (mcs v N a1 L c1) (fun _ => rfl)) (fun x hx e => by have h9 := HAB2.out x hx; have e : x.block = w.heap.size := e; omega)
        case pos =>
          have hlI : (q : Int) < cntM ys := by omega
          have hx4 : valN 4 (nxtX (6 + 4 * q) ys) < 4294967296 := valN4 _ (nxtX_small _ _ HYS.out)
          obtain ⟨aR, cR, hRB, _⟩ := HRD.out.ex
          have e1 : wr.cell? ⟨W3.heap.size, 1, none⟩ = some (.int .i64 (nxtE (6 + 4 * q) ys 0)) := cell_of_cells hRB.head 1
          by_cases hen : 6 + 4 * q ≤ ys.length
          case neg =>
            have hE2 : nxtE (6 + 4 * q) ys 0 = 2 := by unfold nxtE; rw [if_neg hen]
            have HEN := Lib.hid (d_fEnd W3.heap.size _ _ _ wr HRD.out)
            have he2 : endOf (nxtX (6 + 4 * q) ys).length (nxtE (6 + 4 * q) ys 0) = 2 := by rw [hE2]; rfl
            rw [he2] at HEN
            rw [hE2] at e1
            have HD := Lib.hid (HBD.out (fun h => by have := HWI.out.1 h.1; omega))
            clear HGD HBD hE2 he2 hRB hen HWI
            go_wp2_with (first | (refine store_row rfl 24 (.tmp 2) (.tmp 70) rfl w.heap.size (mcs 0 0 none 0 0) rfl rfl _ _ HZ.out HIM.out rfl rfl ?_) | (go_at_call 51; (with_reducible refine HEN.out.mono ?_); rintro e w9 ⟨rfl, h9⟩; obtain rfl := h9.symm))
            refine ret_row1 rfl rfl w.heap.size _ _ _ _ rfl (setRow_heap _ _ _ _ _ _ HZ.out) Tryd.underlying24 rfl HIM.out _ rfl ?_
            exact DecMIs.bad HD.out (by decide) (HTT.out.setRow _ _ (fun h => absurd h (Nat.lt_irrefl _)))
          case pos =>
          have hE2 : nxtE (6 + 4 * q) ys 0 = 0 := by unfold nxtE; rw [if_pos hen]
          rw [hE2] at e1
          clear hE2 hRB hen
          go_wp2_with fail
          clear e1
          have HRD := Lib.hid (HRD.out.still ((Touch.refl wr (fun _ => False)).drew))
          have HM := Lib.hid (((Touch.refl wr (fun _ => False)).drew).keeps HM.out (fun h => h))
          have HZ := Lib.hid (((Touch.refl wr (fun _ => False)).drew).keeps HZ.out (fun h => h))
          have HOW := Lib.hid (HOW.out.still ((Touch.refl wr (fun _ => False)).drew))
          have hwv : IntKind.i64.wrap (valN 4 (nxtX (6 + 4 * q) ys) : Nat) = (valN 4 (nxtX (6 + 4 * q) ys) : Nat) := by rw [IntKind.wrap_i64]; omega
          have HWQ := Lib.hid hwv
          clear hwv
          have hS := HTT.out.drew
          refine wp_region_tree (fun w' => Touch w w' (fun _ => False)) (.take 0 (.take 2 (.two 1 3 (.one 3 (.take 4 (.one 5 (.one 6 (.take 7 (.one 8 .fin)))))) (.take 4 (.two 1 5 (.one 5 (.one 6 (.take 7 (.one 8 .fin)))) (.one 1 (.one 6 (.take 7 (.one 8 .fin))))))))) (by kernel_rfl) (by kernel_rfl) (by kernel_rfl) (by kernel_rfl) hS ?_
          refine walkT_take ?_
          (refine takeN_take (v := ?_) (some 53) rfl rfl (fun _ _ _ h => h) (by rfl) ?_ ?_; rotate_left; (focus (intro w' hw'; have hwv := HWQ.out; go_simp; (try with_reducible rfl))); (try simp only [Act.put, List.setIfInBounds_toArray, List.set_cons_zero, List.set_cons_succ]))
          refine walkT_take ?_
          (refine takeN_take (v := ?_) (some 55) rfl rfl (fun _ _ _ h => h) (by rfl) ?_ ?_; rotate_left; (focus (intro w' hw'; have hwv := HWQ.out; go_simp; (try with_reducible rfl))); (try simp only [Act.put, List.setIfInBounds_toArray, List.set_cons_zero, List.set_cons_succ]))
          refine walkT_two ?_ ?_
          · (have cc := (mcells_of HM.out).2.2; refine runN_do (v := .slice a1 q c1) (w' := _) (some 54) rfl rfl (by rfl) (by go_simp; (try with_reducible rfl)) hS (fun hS => ?_); clear cc; (try simp only [Act.put, List.setIfInBounds_toArray, List.set_cons_zero, List.set_cons_succ]))
            refine walkT_one ?_
            (refine runN_call 56 _ _ _ _ (d_fU32 W3.heap.size _ _ _ _ HRD.out) rfl rfl rfl (by rfl) rfl (enter_fU32 _ _) ?_; rintro e w8 ⟨rfl, hrd, ht⟩; have hS := hS.trans ht (fun k hk e => by have := HMG.out; have e : k = W3.heap.size := e; omega); refine ⟨_, rfl, hS, fun _ => ?_⟩; have HRD := Lib.hid hrd; have HM := Lib.hid (ht.keeps HM.out (fun e => HMG.out.1 e)); have HZ := Lib.hid (ht.keeps HZ.out (fun e => HMG.out.2.1 e)); have HOW := Lib.hid (HOW.out.touch ht (fun x hx e => by have := (HOW.out.own.lt x hx).1; have := HMG.out; have e : x = W3.heap.size := e; omega)); clear hrd ht; (try simp only [Act.put, List.setIfInBounds_toArray, List.set_cons_zero, List.set_cons_succ]))
            refine walkT_take ?_
            (refine takeN_take (v := ?_) (some 57) rfl rfl (fun _ _ _ h => h) (by rfl) ?_ ?_; rotate_left; (focus (intro w' hw'; have hwv := HWQ.out; go_simp; (try with_reducible rfl))); (try simp only [Act.put, List.setIfInBounds_toArray, List.set_cons_zero, List.set_cons_succ]))
            refine walkT_one ?_
            (refine runN_new 58 (fun W => .slice (some ⟨W.heap.size, 0, none⟩) 1 1) #[.int .i64 (valN 4 (nxtX (6 + 4 * q) ys) : Nat)] 3 rfl rfl (by rfl) (by intro W; go_simp <;> first | with_reducible rfl | rfl | exact ⟨rfl, rfl⟩) ?_; intro w7 hw7 hM7 hs7 t7; have hS := hS.trans t7 (fun _ _ h => h.elim); refine ⟨hS, fun _ => ?_⟩; have HNW := Lib.hid (show RowS w7 _ 1 1 1 [oneI (valN 4 (nxtX (6 + 4 * q) ys) : Nat)] from hw7 ▸ row_oneI _ _); have HM := Lib.hid (t7.keeps HM.out (fun h => h)); have HZ := Lib.hid (t7.keeps HZ.out (fun h => h)); have HRD := Lib.hid (HRD.out.still t7); have HOW := Lib.hid (HOW.out.still t7); clear hw7 hM7 hs7 t7; (try simp only [Act.put, List.setIfInBounds_toArray, List.set_cons_zero, List.set_cons_succ]))
            refine walkT_one ?_
            (refine runN_appS 59 (.tmp 54) (.tmp 58) _ rfl rfl rfl (by rfl) 3 Tryd.underlying22 (.int .i64 0) 1 8 infoInt rfl (by decide) (M + 1) _ _ rfl HOW.out _ 1 1 _ rfl HNW.out (by simp [oneI, Value.oneCell']) (q + 1) ((segsV (q + 1) (nxtX 6 ys)).map oneI) (by rw [segsV_snoc, List.map_append, nxtX_nxtX]; rfl) (by simp [segsV_length]) (by unfold maxLen; omega) (by omega) (heap_lt HM.out) ?_; intro a9 c9 w9 how9 hg9 hp9; have t9 := (Touch.refl _ (fun k => M + 1 ≤ k)).grown hg9 (fun k hk _ => (HOW.out.own.lt k hk).1); have hS := hS.trans t9 (fun k hk h => by have := HMG.out; have h : M + 1 ≤ k := h; omega); refine ⟨hS, fun _ => ?_⟩; have HM := Lib.hid (t9.keeps HM.out (fun h => by have h : M + 1 ≤ M := h; omega)); have HZ := Lib.hid (t9.keeps HZ.out (fun h => by have := HMG.out; have h : M + 1 ≤ w.heap.size := h; omega)); have HRD := Lib.hid (HRD.out.touch t9 (fun k _ h => .inr (by have := HMG.out; have h : M + 1 ≤ k := h; omega))); have HOW := Lib.hid how9; clear how9 hg9 hp9 t9 HNW; (try simp only [Act.put, List.setIfInBounds_toArray, List.set_cons_zero, List.set_cons_succ]))
            refine walkT_take ?_
            (refine takeN_take (v := ?_) (some 60) rfl rfl (fun _ _ _ h => h) (by rfl) ?_ ?_; rotate_left; (focus (intro w' hw'; have hwv := HWQ.out; go_simp; (try with_reducible rfl))); (try simp only [Act.put, List.setIfInBounds_toArray, List.set_cons_zero, List.set_cons_succ]))
            refine walkT_one ?_
            (have cc := (mcells_of HM.out).2.2; have ff := free_of_cells HM.out 2; refine runN_skip0 none rfl rfl (by rfl) (w' := World.setCell w9 ⟨M, 2, none⟩ (.slice a9 (q + 1) c9)) (by go_simp; (try with_reducible rfl)) ?_ ?_; (exact hS.setCell _ _ (fun h => by have := HMG.out; have h : M < w.heap.size := h; omega)); clear cc ff; intro hS; have t6 := (Touch.refl w9 (fun k => k = M)).setCell ⟨M, 2, none⟩ (.slice a9 (q + 1) c9) (fun _ => rfl); have HM := Lib.hid (heap_setCell_same _ M 2 _ _ (.slice a9 (q + 1) c9) HM.out); have HZ := Lib.hid (t6.keeps HZ.out (fun e => HMG.out.2.2.1 e.symm)); have HRD := Lib.hid (HRD.out.touch t6 (fun k _ h => .inr (by have := HMG.out; have h : k = M := h; omega))); have HOW := Lib.hid (HOW.out.touch t6 (fun x hx e => by have := (HOW.out.own.lt x hx).1; have e : x = M := e; omega)); clear t6; (try simp only [Act.put, List.setIfInBounds_toArray, List.set_cons_zero, List.set_cons_succ]))
            refine walkT_fin ?_
            go_wp2_with fail
            refine ⟨⟨q + 1, a9, c9, ⟨hlt, by go_num, HM.out, HZ.out, ?_, HOW.out, hS⟩⟩, by simp [intOf]; omega⟩
            have h9 := HRD.out
            rw [nxtX_nxtX, nxtE_nxtE] at h9
            rwa [show 6 + 4 * q + 4 = 6 + 4 * (q + 1) by omega] at h9
          · (refine runN_call 56 _ _ _ _ (d_fU32 W3.heap.size _ _ _ _ HRD.out) rfl rfl rfl (by rfl) rfl (enter_fU32 _ _) ?_; rintro e w8 ⟨rfl, hrd, ht⟩; have hS := hS.trans ht (fun k hk e => by have := HMG.out; have e : k = W3.heap.size := e; omega); refine ⟨_, rfl, hS, fun _ => ?_⟩; have HRD := Lib.hid hrd; have HM := Lib.hid (ht.keeps HM.out (fun e => HMG.out.1 e)); have HZ := Lib.hid (ht.keeps HZ.out (fun e => HMG.out.2.1 e)); have HOW := Lib.hid (HOW.out.touch ht (fun x hx e => by have := (HOW.out.own.lt x hx).1; have := HMG.out; have e : x = W3.heap.size := e; omega)); clear hrd ht; (try simp only [Act.put, List.setIfInBounds_toArray, List.set_cons_zero, List.set_cons_succ]))
            refine walkT_take ?_
            (refine takeN_take (v := ?_) (some 57) rfl rfl (fun _ _ _ h => h) (by rfl) ?_ ?_; rotate_left; (focus (intro w' hw'; have hwv := HWQ.out; go_simp; (try with_reducible rfl))); (try simp only [Act.put, List.setIfInBounds_toArray, List.set_cons_zero, List.set_cons_succ]))
            refine walkT_two ?_ ?_
            · (have cc := (mcells_of HM.out).2.2; refine runN_do (v := .slice a1 q c1) (w' := _) (some 54) rfl rfl (by rfl) (by go_simp; (try with_reducible rfl)) hS (fun hS => ?_); clear cc; (try simp only [Act.put, List.setIfInBounds_toArray, List.set_cons_zero, List.set_cons_succ]))
              refine walkT_one ?_
              (refine runN_new 58 (fun W => .slice (some ⟨W.heap.size, 0, none⟩) 1 1) #[.int .i64 (valN 4 (nxtX (6 + 4 * q) ys) : Nat)] 3 rfl rfl (by rfl) (by intro W; go_simp <;> first | with_reducible rfl | rfl | exact ⟨rfl, rfl⟩) ?_; intro w7 hw7 hM7 hs7 t7; have hS := hS.trans t7 (fun _ _ h => h.elim); refine ⟨hS, fun _ => ?_⟩; have HNW := Lib.hid (show RowS w7 _ 1 1 1 [oneI (valN 4 (nxtX (6 + 4 * q) ys) : Nat)] from hw7 ▸ row_oneI _ _); have HM := Lib.hid (t7.keeps HM.out (fun h => h)); have HZ := Lib.hid (t7.keeps HZ.out (fun h => h)); have HRD := Lib.hid (HRD.out.still t7); have HOW := Lib.hid (HOW.out.still t7); clear hw7 hM7 hs7 t7; (try simp only [Act.put, List.setIfInBounds_toArray, List.set_cons_zero, List.set_cons_succ]))
              refine walkT_one ?_
              (refine runN_appS 59 (.tmp 54) (.tmp 58) _ rfl rfl rfl (by rfl) 3 Tryd.underlying22 (.int .i64 0) 1 8 infoInt rfl (by decide) (M + 1) _ _ rfl HOW.out _ 1 1 _ rfl HNW.out (by simp [oneI, Value.oneCell']) (q + 1) ((segsV (q + 1) (nxtX 6 ys)).map oneI) (by rw [segsV_snoc, List.map_append, nxtX_nxtX]; rfl) (by simp [segsV_length]) (by unfold maxLen; omega) (by omega) (heap_lt HM.out) ?_; intro a9 c9 w9 how9 hg9 hp9; have t9 := (Touch.refl _ (fun k => M + 1 ≤ k)).grown hg9 (fun k hk _ => (HOW.out.own.lt k hk).1); have hS := hS.trans t9 (fun k hk h => by have := HMG.out; have h : M + 1 ≤ k := h; omega); refine ⟨hS, fun _ => ?_⟩; have HM := Lib.hid (t9.keeps HM.out (fun h => by have h : M + 1 ≤ M := h; omega)); have HZ := Lib.hid (t9.keeps HZ.out (fun h => by have := HMG.out; have h : M + 1 ≤ w.heap.size := h; omega)); have HRD := Lib.hid (HRD.out.touch t9 (fun k _ h => .inr (by have := HMG.out; have h : M + 1 ≤ k := h; omega))); have HOW := Lib.hid how9; clear how9 hg9 hp9 t9 HNW; (try simp only [Act.put, List.setIfInBounds_toArray, List.set_cons_zero, List.set_cons_succ]))
              refine walkT_take ?_
              (refine takeN_take (v := ?_) (some 60) rfl rfl (fun _ _ _ h => h) (by rfl) ?_ ?_; rotate_left; (focus (intro w' hw'; have hwv := HWQ.out; go_simp; (try with_reducible rfl))); (try simp only [Act.put, List.setIfInBounds_toArray, List.set_cons_zero, List.set_cons_succ]))
              refine walkT_one ?_
              (have cc := (mcells_of HM.out).2.2; have ff := free_of_cells HM.out 2; refine runN_skip0 none rfl rfl (by rfl) (w' := World.setCell w9 ⟨M, 2, none⟩ (.slice a9 (q + 1) c9)) (by go_simp; (try with_reducible rfl)) ?_ ?_; (exact hS.setCell _ _ (fun h => by have := HMG.out; have h : M < w.heap.size := h; omega)); clear cc ff; intro hS; have t6 := (Touch.refl w9 (fun k => k = M)).setCell ⟨M, 2, none⟩ (.slice a9 (q + 1) c9) (fun _ => rfl); have HM := Lib.hid (heap_setCell_same _ M 2 _ _ (.slice a9 (q + 1) c9) HM.out); have HZ := Lib.hid (t6.keeps HZ.out (fun e => HMG.out.2.2.1 e.symm)); have HRD := Lib.hid (HRD.out.touch t6 (fun k _ h => .inr (by have := HMG.out; have h : k = M := h; omega))); have HOW := Lib.hid (HOW.out.touch t6 (fun x hx e => by have := (HOW.out.own.lt x hx).1; have e : x = M := e; omega)); clear t6; (try simp only [Act.put, List.setIfInBounds_toArray, List.set_cons_zero, List.set_cons_succ]))
              refine walkT_fin ?_
              go_wp2_with fail
              refine ⟨⟨q + 1, a9, c9, ⟨hlt, by go_num, HM.out, HZ.out, ?_, HOW.out, hS⟩⟩, by simp [intOf]; omega⟩
              have h9 := HRD.out
              rw [nxtX_nxtX, nxtE_nxtE] at h9
              rwa [show 6 + 4 * q + 4 = 6 + 4 * (q + 1) by omega] at h9
            · (refine runN_new 58 (fun W => .slice (some ⟨W.heap.size, 0, none⟩) 1 1) #[.int .i64 (valN 4 (nxtX (6 + 4 * q) ys) : Nat)] 3 rfl rfl (by rfl) (by intro W; go_simp <;> first | with_reducible rfl | rfl | exact ⟨rfl, rfl⟩) ?_; intro w7 hw7 hM7 hs7 t7; have hS := hS.trans t7 (fun _ _ h => h.elim); refine ⟨hS, fun _ => ?_⟩; have HNW := Lib.hid (show RowS w7 _ 1 1 1 [oneI (valN 4 (nxtX (6 + 4 * q) ys) : Nat)] from hw7 ▸ row_oneI _ _); have HM := Lib.hid (t7.keeps HM.out (fun h => h)); have HZ := Lib.hid (t7.keeps HZ.out (fun h => h)); have HRD := Lib.hid (HRD.out.still t7); have HOW := Lib.hid (HOW.out.still t7); clear hw7 hM7 hs7 t7; (try simp only [Act.put, List.setIfInBounds_toArray, List.set_cons_zero, List.set_cons_succ]))
              refine walkT_one ?_
              (have cc := (mcells_of HM.out).2.2; refine runN_do (v := .slice a1 q c1) (w' := _) (some 54) rfl rfl (by rfl) (by go_simp; (try with_reducible rfl)) hS (fun hS => ?_); clear cc; (try simp only [Act.put, List.setIfInBounds_toArray, List.set_cons_zero, List.set_cons_succ]))
              refine walkT_one ?_
              (refine runN_appS 59 (.tmp 54) (.tmp 58) _ rfl rfl rfl (by rfl) 3 Tryd.underlying22 (.int .i64 0) 1 8 infoInt rfl (by decide) (M + 1) _ _ rfl HOW.out _ 1 1 _ rfl HNW.out (by simp [oneI, Value.oneCell']) (q + 1) ((segsV (q + 1) (nxtX 6 ys)).map oneI) (by rw [segsV_snoc, List.map_append, nxtX_nxtX]; rfl) (by simp [segsV_length]) (by unfold maxLen; omega) (by omega) (heap_lt HM.out) ?_; intro a9 c9 w9 how9 hg9 hp9; have t9 := (Touch.refl _ (fun k => M + 1 ≤ k)).grown hg9 (fun k hk _ => (HOW.out.own.lt k hk).1); have hS := hS.trans t9 (fun k hk h => by have := HMG.out; have h : M + 1 ≤ k := h; omega); refine ⟨hS, fun _ => ?_⟩; have HM := Lib.hid (t9.keeps HM.out (fun h => by have h : M + 1 ≤ M := h; omega)); have HZ := Lib.hid (t9.keeps HZ.out (fun h => by have := HMG.out; have h : M + 1 ≤ w.heap.size := h; omega)); have HRD := Lib.hid (HRD.out.touch t9 (fun k _ h => .inr (by have := HMG.out; have h : M + 1 ≤ k := h; omega))); have HOW := Lib.hid how9; clear how9 hg9 hp9 t9 HNW; (try simp only [Act.put, List.setIfInBounds_toArray, List.set_cons_zero, List.set_cons_succ]))
              refine walkT_take ?_
              (refine takeN_take (v := ?_) (some 60) rfl rfl (fun _ _ _ h => h) (by rfl) ?_ ?_; rotate_left; (focus (intro w' hw'; have hwv := HWQ.out; go_simp; (try with_reducible rfl))); (try simp only [Act.put, List.setIfInBounds_toArray, List.set_cons_zero, List.set_cons_succ]))
              refine walkT_one ?_
              (have cc := (mcells_of HM.out).2.2; have ff := free_of_cells HM.out 2; refine runN_skip0 none rfl rfl (by rfl) (w' := World.setCell w9 ⟨M, 2, none⟩ (.slice a9 (q + 1) c9)) (by go_simp; (try with_reducible rfl)) ?_ ?_; (exact hS.setCell _ _ (fun h => by have := HMG.out; have h : M < w.heap.size := h; omega)); clear cc ff; intro hS; have t6 := (Touch.refl w9 (fun k => k = M)).setCell ⟨M, 2, none⟩ (.slice a9 (q + 1) c9) (fun _ => rfl); have HM := Lib.hid (heap_setCell_same _ M 2 _ _ (.slice a9 (q + 1) c9) HM.out); have HZ := Lib.hid (t6.keeps HZ.out (fun e => HMG.out.2.2.1 e.symm)); have HRD := Lib.hid (HRD.out.touch t6 (fun k _ h => .inr (by have := HMG.out; have h : k = M := h; omega))); have HOW := Lib.hid (HOW.out.touch t6 (fun x hx e => by have := (HOW.out.own.lt x hx).1; have e : x = M := e; omega)); clear t6; (try simp only [Act.put, List.setIfInBounds_toArray, List.set_cons_zero, List.set_cons_succ]))
              refine walkT_fin ?_
              go_wp2_with fail
              refine ⟨⟨q + 1, a9, c9, ⟨hlt, by go_num, HM.out, HZ.out, ?_, HOW.out, hS⟩⟩, by simp [intOf]; omega⟩
              have h9 := HRD.out
              rw [nxtX_nxtX, nxtE_nxtE] at h9
              rwa [show 6 + 4 * q + 4 = 6 + 4 * (q + 1) by omega] at h9

end Go.Proofs.YtibpnlhdpdfhiaaDoor
