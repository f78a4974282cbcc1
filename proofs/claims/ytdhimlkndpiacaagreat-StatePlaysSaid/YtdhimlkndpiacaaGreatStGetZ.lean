/- A state: New, Get, Len. -/
import Derived.Test.YtdhimlkndpiacaaGreatStApplyZ
set_option linter.unusedVariables false
set_option linter.unusedSimpArgs false
namespace Go.Proofs.YtdhimlkndpiacaaGreat
open Go.RowKit

theorem infoTup5 : (Tryz.prog.info? 25).map (·.size) = some 5 := by kernel_rfl
theorem addS_run (a b c : Int) (h : a + b = c ∧ -9223372036854775808 ≤ c ∧ c ≤ 9223372036854775807) (x y : Operand) (W : World) :
    (do eqGuard BinOp.add 3 x y (.int .i64 a) (.int .i64 b); binOp BinOp.add 3 (.int .i64 a) (.int .i64 b) : Sem Value).run Tryz.prog W = .ok (.int .i64 c) W := by
  obtain ⟨rfl, h1, h2⟩ := h
  have hw : wrap64 (a + b) = a + b := by unfold wrap64; omega
  have hw2 : IntKind.i64.wrap (a + b) = a + b := IntWalk.i64_in _ (by omega)
  go_simp
set_option maxRecDepth 20000 in
set_option maxHeartbeats 4000000 in
theorem stnew_any (w : World) : Calls Tryz.prog 7 #[] w fun e w' => ∃ b h, e = .returned (.pointer (some ⟨b, 0, none⟩)) ∧ StN w w' b h stZ := by
  obtain ⟨W1, hW1⟩ : ∃ W, w.alloc (.map #[] 0) = W := ⟨_, rfl⟩
  obtain ⟨W2, hW2⟩ : ∃ W, W1.alloc (.map #[] 0) = W := ⟨_, rfl⟩
  have s1 : W1.heap.size = w.heap.size + 1 := by rw [← hW1]; simp
  have s2 : W2.heap.size = w.heap.size + 2 := by rw [← hW2]; simp; omega
  have t1 : Touch w W1 (fun _ => False) := hW1 ▸ (Touch.refl w _).alloc _
  have t2 : Touch W1 W2 (fun _ => False) := hW2 ▸ (Touch.refl W1 _).alloc _
  have o1 : OwnZ W1 3 2 w.heap.size [] := hW1 ▸ OwnZ.made w _ _
  have o2 : OwnFl W2 W1.heap.size [] := hW2 ▸ OwnFl.made W1
  have hmk1 := run_makeMap (P := Tryz.prog) 60 w
  have hmk2 := run_makeMap (P := Tryz.prog) 61 W1
  rw [hW1] at hmk1
  rw [hW2] at hmk2
  obtain ⟨W3, hW3⟩ : ∃ W, W2.alloc (.cells #[.int .i64 0, .slice none 0 0, .map (some w.heap.size), .map (some W1.heap.size)] 63) = W := ⟨_, rfl⟩
  have g3 : W3.heap[W2.heap.size]? = some (.cells #[.int .i64 0, .slice none 0 0, .map (some w.heap.size), .map (some W1.heap.size)] 63 (0, 0)) := hW3 ▸ heap_alloc_new ..
  have t3 : Touch W2 W3 (fun _ => False) := hW3 ▸ (Touch.refl W2 _).alloc _
  have HN : RowKit.Hid (StN w W3 W2.heap.size ⟨w.heap.size, W1.heap.size, none, 0⟩ stZ) := Lib.hid ⟨⟨g3, (o1.still t2).still t3, o2.still t3, RowS.nil _ _ _ _ (Nat.zero_le _), fun x hx => (by cases hx), ⟨by simp only; omega, by simp only; omega, by simp only; omega⟩, stZ_ok⟩, (t1.trans t2 (fun _ _ h => h)).trans t3 (fun _ _ h => h), fun k hk => by
    rcases hk with rfl | rfl | rfl
    · omega
    · exact Nat.le_refl _
    · show _ ≤ W1.heap.size; omega⟩
  have HW3 := Lib.hid hW3
  clear s1 s2 t1 t2 o1 o2 g3 t3 hW1 hW2 hW3
  go_enter Tryz.func7, Tryz.ntmps7
  go_wp2_with fail
  go_ret
  rw [HW3.out]
  exact ⟨_, _, rfl, HN.out⟩
set_option maxRecDepth 20000 in
set_option maxHeartbeats 4000000 in
theorem stget_any (w : World) (g : Nat) (h : StH) (s : StS) (d : StM w g h s) (t : TupD) (ot : TupOk t) :
    Calls Tryz.prog 10 #[.pointer (some ⟨g, 0, none⟩), .agg (tcs t)] w fun e w' => e = .returned (.tuple #[.agg (fca (getF s.F t)), .bool (hasF s.F t)]) ∧ Touch w w' (fun _ => False) := by
  have HD := Lib.hid d
  obtain ⟨W1, hW1⟩ : ∃ W, w.alloc (.cells (tcs t) 25) = W := ⟨_, rfl⟩
  have t1 : Touch w W1 (fun _ => False) := hW1 ▸ (Touch.refl w _).alloc _
  have g1 : W1.heap[w.heap.size]? = some (.cells (tcs t) 25 (0, 0)) := hW1 ▸ heap_alloc_new ..
  have s1 : W1.heap.size = w.heap.size + 1 := by rw [← hW1]; simp
  obtain ⟨W2, hW2⟩ : ∃ W, W1.alloc (.cells (fca noF) 39) = W := ⟨_, rfl⟩
  have t2 : Touch W1 W2 (fun _ => False) := hW2 ▸ (Touch.refl W1 _).alloc _
  have g2 : W2.heap[w.heap.size + 1]? = some (.cells (fca noF) 39 (0, 0)) := by
    rw [← s1]; exact hW2 ▸ heap_alloc_new ..
  have s2 : W2.heap.size = w.heap.size + 2 := by rw [← hW2]; simp [s1]
  have HT2 := Lib.hid (t1.trans t2 (fun _ _ h => h))
  have HG1 : RowKit.Hid (∀ W, Touch W2 W (fun _ => False) → W.heap[w.heap.size]? = some (.cells (tcs t) 25 (0, 0))) := Lib.hid (fun W x => x.keeps (t2.keeps g1 (fun h => h)) (fun h => h))
  have HG2 : RowKit.Hid (∀ W, Touch W2 W (fun _ => False) → W.heap[w.heap.size + 1]? = some (.cells (fca noF) 39 (0, 0))) := Lib.hid (fun W x => x.keeps g2 (fun h => h))
  have HCC : RowKit.Hid (∀ W, Touch W2 W (fun _ => False) → W.cell? ⟨g, 3, none⟩ = some (.map (some h.fm))) := Lib.hid (fun W x => (d.still ((t1.trans t2 (fun _ _ h => h)).trans x (fun _ _ h => h))).cells.2.2.2)
  have HLK : RowKit.Hid (∀ W, Touch W2 W (fun _ => False) → (Instr.lookup 61 (.map (some h.fm)) (.agg (tcs t)) true).run Tryz.prog W = .ok (.tuple #[.agg (fca (getF s.F t)), .bool (hasF s.F t)]) W) := Lib.hid (fun W x => (d.still ((t1.trans t2 (fun _ _ h => h)).trans x (fun _ _ h => h))).fl.ok' ot)
  have HI5 := Lib.hid infoTup5
  have HI8 := Lib.hid infoFl8
  have HW2 := Lib.hid (And.intro hW1 hW2)
  have HS2 := Lib.hid s2
  generalize getF s.F t = F at *
  generalize hasF s.F t = b at *
  obtain ⟨⟨a1, a2, a3, a4, a5⟩, fb, fg, fs⟩ := F
  obtain ⟨k1, k2, k3, k4, k5⟩ := t
  simp only [tcs, fca, noF, noT] at *
  clear d hW1 t1 g1 s1 hW2 t2 g2 s2
  go_enter Tryz.func10, Tryz.ntmps10
  go_upto_region 3 with (fail)
  rw [HW2.out.1, HW2.out.2]
  have hS := (Touch.refl W2 (fun _ => False)).drew
  refine wp_region_tree (fun w' => Touch W2 w' (fun _ => False)) (.take 0 (.take 1 (.take 2 (.take 3 (.take 4 (.take 5 (.take 6 (.take 7 (.take 8 (.one 9 (.one 10 (.take 11 .fin)))))))))))) (by kernel_rfl) (by kernel_rfl) (by kernel_rfl) (by kernel_rfl) hS ?_
  refine walkT_take ?_
  (refine takeN_take (v := ?_) (some 12) rfl rfl (fun _ _ _ h => h) (by rfl) ?_ ?_; rotate_left; (focus (intro w' hw'; have y0 := HCC.out w' hw'; have y1 := HLK.out w' hw'; go_simp; (try with_reducible rfl))); (try simp only [Act.put, List.setIfInBounds_toArray, List.set_cons_zero, List.set_cons_succ]))
  refine walkT_take ?_
  (refine takeN_take (v := ?_) (some 13) rfl rfl (fun _ _ _ h => h) (by rfl) ?_ ?_; rotate_left; (focus (intro w' hw'; have y0 := HCC.out w' hw'; have y1 := HLK.out w' hw'; go_simp; (try with_reducible rfl))); (try simp only [Act.put, List.setIfInBounds_toArray, List.set_cons_zero, List.set_cons_succ]))
  refine walkT_take ?_
  (refine takeN_take (v := ?_) (some 14) rfl rfl (fun _ _ _ h => h) (by rfl) ?_ ?_; rotate_left; (focus (intro w' hw'; have y0 := HCC.out w' hw'; have y1 := HLK.out w' hw'; go_simp; (try with_reducible rfl))); (try simp only [Act.put, List.setIfInBounds_toArray, List.set_cons_zero, List.set_cons_succ]))
  refine walkT_take ?_
  (refine takeN_take (v := ?_) (some 15) rfl rfl (fun _ _ _ h => h) (by rfl) ?_ ?_; rotate_left; (focus (intro w' hw'; have y0 := HCC.out w' hw'; have y1 := HLK.out w' hw'; go_simp; (try with_reducible rfl))); (try simp only [Act.put, List.setIfInBounds_toArray, List.set_cons_zero, List.set_cons_succ]))
  refine walkT_take ?_
  (refine takeN_row (some 16) rfl rfl 25 (.tmp 3) rfl (w.heap.size) rfl _ _ _ _ (fun w' h => HG1.out w' h) Tryz.underlying25 rfl HI5.out (fun _ _ _ h => h) (by rfl) ?_; (try simp only [Act.put, List.setIfInBounds_toArray, List.set_cons_zero, List.set_cons_succ]))
  refine walkT_take ?_
  (refine takeN_take (v := ?_) (some 17) rfl rfl (fun _ _ _ h => h) (by rfl) ?_ ?_; rotate_left; (focus (intro w' hw'; have y0 := HCC.out w' hw'; have y1 := HLK.out w' hw'; go_simp; (try with_reducible rfl))); (try simp only [Act.put, List.setIfInBounds_toArray, List.set_cons_zero, List.set_cons_succ]))
  refine walkT_take ?_
  (refine takeN_take (v := ?_) (some 11) rfl rfl (fun _ _ _ h => h) (by rfl) ?_ ?_; rotate_left; (focus (intro w' hw'; have y0 := HCC.out w' hw'; have y1 := HLK.out w' hw'; go_simp; (try with_reducible rfl))); (try simp only [Act.put, List.setIfInBounds_toArray, List.set_cons_zero, List.set_cons_succ]))
  refine walkT_take ?_
  (refine takeN_take (v := ?_) (some 18) rfl rfl (fun _ _ _ h => h) (by rfl) ?_ ?_; rotate_left; (focus (intro w' hw'; have y0 := HCC.out w' hw'; have y1 := HLK.out w' hw'; go_simp; (try with_reducible rfl))); (try simp only [Act.put, List.setIfInBounds_toArray, List.set_cons_zero, List.set_cons_succ]))
  refine walkT_take ?_
  (refine takeN_take (v := ?_) (some 19) rfl rfl (fun _ _ _ h => h) (by rfl) ?_ ?_; rotate_left; (focus (intro w' hw'; have y0 := HCC.out w' hw'; have y1 := HLK.out w' hw'; go_simp; (try with_reducible rfl))); (try simp only [Act.put, List.setIfInBounds_toArray, List.set_cons_zero, List.set_cons_succ]))
  refine walkT_one ?_
  (refine runN_new 6 (fun W => .pointer (some ⟨W.heap.size, 0, none⟩)) #[.int .u32 0, .int .u32 0, .int .i64 0, .int .i64 0, .int .i64 0, .int .i64 0, .int .i64 0, .int .i64 0] 39 rfl rfl (by rfl) (by intro W; go_simp <;> first | with_reducible rfl | rfl | exact ⟨rfl, rfl⟩) ?_; intro w7 hw7 hM7 hs7 t9; have hS := hS.trans t9 (fun _ _ h => h.elim); have HM7 := Lib.hid hM7; refine ⟨hS, fun _ => ?_⟩; clear hw7 hM7 hs7 t9; (try simp only [Act.put, List.setIfInBounds_toArray, List.set_cons_zero, List.set_cons_succ]))
  refine walkT_one ?_
  (refine runN_store rfl rfl (by rfl) 39 _ _ rfl _ #[.int .u32 a1, .int .u32 a2, .int .i64 a3, .int .i64 a4, .int .i64 a5, .int .i64 fb, .int .i64 fg, .int .i64 fs] rfl rfl _ _ HM7.out HI8.out rfl rfl ?_; intro w8 h8 t8; have H8 := Lib.hid h8; have hS := hS.trans t8 (fun k hk h => by have h : k = W2.heap.size := h; omega); refine ⟨hS, fun _ => ?_⟩; clear h8 t8; (try simp only [Act.put, List.setIfInBounds_toArray, List.set_cons_zero, List.set_cons_succ]))
  refine walkT_take ?_
  (refine takeN_take (v := ?_) (some 7) rfl rfl (fun _ _ _ h => h) (by rfl) ?_ ?_; rotate_left; (focus (intro w' hw'; have y0 := HCC.out w' hw'; have y1 := HLK.out w' hw'; go_simp; (try with_reducible rfl))); (try simp only [Act.put, List.setIfInBounds_toArray, List.set_cons_zero, List.set_cons_succ]))
  refine walkT_fin ?_
  have HG6 := Lib.hid (hS.keeps (HG2.out _ (Touch.refl _ _)) (fun h => h))
  have HT8 := Lib.hid (HT2.out.trans hS (fun _ _ h => h))
  have h8' : w8.heap[W2.heap.size]? = some (.cells (fca ⟨⟨a1, a2, a3, a4, a5⟩, fb, fg, fs⟩) 39 (0, 0)) := H8.out
  obtain ⟨x0, x1, x2, x3, x4, x5, x6, x7⟩ := cells8_of h8'
  go_wp2_with (refine store_row rfl 39 (.tmp 4) (.tmp 20) rfl (w.heap.size + 1) _ rfl rfl _ _ HG6.out HI8.out rfl rfl ?_)
  refine ret_row1 rfl rfl (w.heap.size + 1) _ #[.int .u32 a1, .int .u32 a2, .int .i64 a3, .int .i64 a4, .int .i64 a5, .int .i64 fb, .int .i64 fg, .int .i64 fs] _ _ rfl (setRow_heap _ _ _ _ _ _ HG6.out) Tryz.underlying39 rfl HI8.out (.bool b) rfl ?_
  exact ⟨rfl, HT8.out.setRow _ _ (fun h => absurd h (by omega))⟩
set_option maxRecDepth 20000 in
set_option maxHeartbeats 4000000 in
theorem stlen_any (w : World) (g : Nat) (h : StH) (s : StS) (d : StM w g h s) :
    Calls Tryz.prog 17 #[.pointer (some ⟨g, 0, none⟩)] w fun e w' => e = .returned (.int .i64 ((1 + s.D.length + s.F.length : Nat) : Int)) ∧ Touch w w' (fun _ => False) := by
  have HC : RowKit.Hid (∀ W, Touch w W (fun _ => False) → W.cell? ⟨g, 2, none⟩ = some (.map (some h.dm)) ∧ W.cell? ⟨g, 3, none⟩ = some (.map (some h.fm)) ∧ (Builtin.len_ #[60] 3 #[.map (some h.dm)]).run Tryz.prog W = .ok (.int .i64 s.D.length) W ∧ (Builtin.len_ #[61] 3 #[.map (some h.fm)]).run Tryz.prog W = .ok (.int .i64 s.F.length) W) := Lib.hid (fun W t => by
    have m := d.still t
    exact ⟨m.cells.2.2.1, m.cells.2.2.2, m.dr.len (t := 60) Tryz.underlying60 _, m.fl.len _⟩)
  have h1 := d.ok.fl
  have h2 := d.ok.dl
  have HA1 : RowKit.Hid ((1 : Int) + (s.D.length : Int) = ((1 + s.D.length : Nat) : Int) ∧ -9223372036854775808 ≤ ((1 + s.D.length : Nat) : Int) ∧ ((1 + s.D.length : Nat) : Int) ≤ 9223372036854775807) := Lib.hid (by omega)
  have HA2 : RowKit.Hid (((1 + s.D.length : Nat) : Int) + (s.F.length : Int) = ((1 + s.D.length + s.F.length : Nat) : Int) ∧ -9223372036854775808 ≤ ((1 + s.D.length + s.F.length : Nat) : Int) ∧ ((1 + s.D.length + s.F.length : Nat) : Int) ≤ 9223372036854775807) := Lib.hid (by omega)
  clear d h1 h2
  go_enter Tryz.func17, Tryz.ntmps17
  go_wp2_with fail
  have hS := (Touch.refl w (fun _ => False)).drew
  refine wp_region_tree (fun w' => Touch w w' (fun _ => False)) (.take 0 (.take 1 (.take 2 (.take 3 (.take 4 (.take 5 (.take 6 (.take 7 (.take 8 (.take 9 (.take 10 (.take 11 (.take 12 .fin))))))))))))) (by kernel_rfl) (by kernel_rfl) (by kernel_rfl) (by kernel_rfl) hS ?_
  refine walkT_take ?_
  (refine takeN_take (v := ?_) (some 5) rfl rfl (fun _ _ _ h => h) (by rfl) ?_ ?_; rotate_left; (focus (intro w' hw'; obtain ⟨c2, c3, l2, l3⟩ := HC.out w' hw'; go_simp; (try with_reducible rfl))); (try simp only [Act.put, List.setIfInBounds_toArray, List.set_cons_zero, List.set_cons_succ]))
  refine walkT_take ?_
  (refine takeN_take (v := ?_) (some 6) rfl rfl (fun _ _ _ h => h) (by rfl) ?_ ?_; rotate_left; (focus (intro w' hw'; obtain ⟨c2, c3, l2, l3⟩ := HC.out w' hw'; go_simp; (try with_reducible rfl))); (try simp only [Act.put, List.setIfInBounds_toArray, List.set_cons_zero, List.set_cons_succ]))
  refine walkT_take ?_
  (refine takeN_take (v := ?_) (some 7) rfl rfl (fun _ _ _ h => h) (by rfl) ?_ ?_; rotate_left; (focus (intro w' hw'; obtain ⟨c2, c3, l2, l3⟩ := HC.out w' hw'; go_simp; (try with_reducible rfl))); (try simp only [Act.put, List.setIfInBounds_toArray, List.set_cons_zero, List.set_cons_succ]))
  refine walkT_take ?_
  (refine takeN_take (v := ?_) (some 8) rfl rfl (fun _ _ _ h => h) (by rfl) ?_ ?_; rotate_left; (focus (intro w' hw'; obtain ⟨c2, c3, l2, l3⟩ := HC.out w' hw'; go_simp; (try with_reducible rfl))); (try simp only [Act.put, List.setIfInBounds_toArray, List.set_cons_zero, List.set_cons_succ]))
  refine walkT_take ?_
  (refine takeN_take (v := ?_) (some 9) rfl rfl (fun _ _ _ h => h) (by rfl) ?_ ?_; rotate_left; (focus (intro w' hw'; obtain ⟨c2, c3, l2, l3⟩ := HC.out w' hw'; go_simp; (try with_reducible rfl))); (try simp only [Act.put, List.setIfInBounds_toArray, List.set_cons_zero, List.set_cons_succ]))
  refine walkT_take ?_
  (refine takeN_bin (some 10) _ _ _ _ _ _ _ _ (addS_run _ _ _ HA1.out) rfl rfl rfl rfl rfl (fun _ _ _ h => h) (by rfl) ?_; (try simp only [Act.put, List.setIfInBounds_toArray, List.set_cons_zero, List.set_cons_succ]))
  refine walkT_take ?_
  (refine takeN_take (v := ?_) (some 11) rfl rfl (fun _ _ _ h => h) (by rfl) ?_ ?_; rotate_left; (focus (intro w' hw'; obtain ⟨c2, c3, l2, l3⟩ := HC.out w' hw'; go_simp; (try with_reducible rfl))); (try simp only [Act.put, List.setIfInBounds_toArray, List.set_cons_zero, List.set_cons_succ]))
  refine walkT_take ?_
  (refine takeN_take (v := ?_) (some 12) rfl rfl (fun _ _ _ h => h) (by rfl) ?_ ?_; rotate_left; (focus (intro w' hw'; obtain ⟨c2, c3, l2, l3⟩ := HC.out w' hw'; go_simp; (try with_reducible rfl))); (try simp only [Act.put, List.setIfInBounds_toArray, List.set_cons_zero, List.set_cons_succ]))
  refine walkT_take ?_
  (refine takeN_take (v := ?_) (some 13) rfl rfl (fun _ _ _ h => h) (by rfl) ?_ ?_; rotate_left; (focus (intro w' hw'; obtain ⟨c2, c3, l2, l3⟩ := HC.out w' hw'; go_simp; (try with_reducible rfl))); (try simp only [Act.put, List.setIfInBounds_toArray, List.set_cons_zero, List.set_cons_succ]))
  refine walkT_take ?_
  (refine takeN_take (v := ?_) (some 14) rfl rfl (fun _ _ _ h => h) (by rfl) ?_ ?_; rotate_left; (focus (intro w' hw'; obtain ⟨c2, c3, l2, l3⟩ := HC.out w' hw'; go_simp; (try with_reducible rfl))); (try simp only [Act.put, List.setIfInBounds_toArray, List.set_cons_zero, List.set_cons_succ]))
  refine walkT_take ?_
  (refine takeN_take (v := ?_) (some 15) rfl rfl (fun _ _ _ h => h) (by rfl) ?_ ?_; rotate_left; (focus (intro w' hw'; obtain ⟨c2, c3, l2, l3⟩ := HC.out w' hw'; go_simp; (try with_reducible rfl))); (try simp only [Act.put, List.setIfInBounds_toArray, List.set_cons_zero, List.set_cons_succ]))
  refine walkT_take ?_
  (refine takeN_bin (some 16) _ _ _ _ _ _ _ _ (addS_run _ _ _ HA2.out) rfl rfl rfl rfl rfl (fun _ _ _ h => h) (by rfl) ?_; (try simp only [Act.put, List.setIfInBounds_toArray, List.set_cons_zero, List.set_cons_succ]))
  refine walkT_take ?_
  (refine takeN_take (v := ?_) (some 2) rfl rfl (fun _ _ _ h => h) (by rfl) ?_ ?_; rotate_left; (focus (intro w' hw'; obtain ⟨c2, c3, l2, l3⟩ := HC.out w' hw'; go_simp; (try with_reducible rfl))); (try simp only [Act.put, List.setIfInBounds_toArray, List.set_cons_zero, List.set_cons_succ]))
  refine walkT_fin ?_
  go_wp2_with fail
  go_ret
  exact ⟨rfl, hS⟩
end Go.Proofs.YtdhimlkndpiacaaGreat
