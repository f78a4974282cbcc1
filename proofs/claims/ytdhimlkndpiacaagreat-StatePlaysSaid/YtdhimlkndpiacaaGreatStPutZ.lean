/- A state: put, drain, follow. -/
import Derived.Test.YtdhimlkndpiacaaGreatStBZ
import Derived.Test.YtdhimlkndpiacaaGreatHAZ
import Derived.Deep.DeepCutAuto
import Derived.Deep.CutBlock
set_option linter.unusedVariables false
set_option linter.unusedSimpArgs false
namespace Go.Proofs.YtdhimlkndpiacaaGreat
open Go.RowKit

theorem infoFl8 : (Tryz.prog.info? 39).map (·.size) = some 8 := by kernel_rfl
theorem zeroI64S (w : World) : (zeroValue 2).run Tryz.prog w = .ok (.int .i64 0) w := by kernel_rfl
theorem cells8_of {w : World} {B : Nat} {x1 x2 x3 x4 x5 x6 x7 x8 : Value} {T : TypeId} (hb : w.heap[B]? = some (.cells #[x1, x2, x3, x4, x5, x6, x7, x8] T (0, 0))) :
    w.cell? ⟨B, 0, none⟩ = some x1 ∧ w.cell? ⟨B, 1, none⟩ = some x2 ∧ w.cell? ⟨B, 2, none⟩ = some x3 ∧ w.cell? ⟨B, 3, none⟩ = some x4 ∧ w.cell? ⟨B, 4, none⟩ = some x5 ∧ w.cell? ⟨B, 5, none⟩ = some x6 ∧ w.cell? ⟨B, 6, none⟩ = some x7 ∧ w.cell? ⟨B, 7, none⟩ = some x8 :=
  ⟨cell_of_cells hb 0, cell_of_cells hb 1, cell_of_cells hb 2, cell_of_cells hb 3, cell_of_cells hb 4, cell_of_cells hb 5, cell_of_cells hb 6, cell_of_cells hb 7⟩
def stPutF (F : List FlD) (f : FlD) : List FlD := if stPutE F f.t = 0 then f :: delF F f.t else F
def stDrD (D : List DR) (d : DR) : List DR := if stDrE D d.b = 0 then d :: delD D d.b else D
def stFoE (bs : List BkD) : Int := if gmay bs then 0 else 1
def stFoS (s : StS) (g : Int) (bs : List BkD) : StS := if gmay bs then { s with gen := g, bs := bs } else s
def flOf0 (t : TupD) (b g s : Int) : FlD := ⟨t, b, g, s⟩
set_option maxRecDepth 20000 in
set_option maxHeartbeats 8000000 in
theorem stput_any (w : World) (b0 : Nat) (h : StH) (s : StS) (m : StM w b0 h s) (f : FlD) (ot : TupOk f.t) :
    Calls Tryz.prog 22 #[.pointer (some ⟨b0, 0, none⟩), .agg (fca f)] w fun e w' => e = .returned (.int .i64 (stPutE s.F f.t)) ∧ OwnFl w' h.fm (stPutF s.F f) ∧ Touch w w' (fun k => k = h.fm) := by
  obtain ⟨W1, hW1⟩ : ∃ W, w.alloc (.cells (fca f) 39) = W := ⟨_, rfl⟩
  have t1 : Touch w W1 (fun _ => False) := hW1 ▸ (Touch.refl w _).alloc _
  have g1 : W1.heap[w.heap.size]? = some (.cells (fca f) 39 (0, 0)) := hW1 ▸ heap_alloc_new ..
  have HCC : RowKit.Hid (∀ W, Touch W1 W (fun _ => False) → W.cell? ⟨b0, 3, none⟩ = some (.map (some h.fm))) := Lib.hid (fun W x => (m.still (t1.trans x (fun _ _ h => h))).cells.2.2.2)
  have HLK : RowKit.Hid (∀ W, Touch W1 W (fun _ => False) → (Instr.lookup 61 (.map (some h.fm)) (.agg (tcs f.t)) true).run Tryz.prog W = .ok (.tuple #[.agg (fca (getF s.F f.t)), .bool (hasF s.F f.t)]) W) := Lib.hid (fun W x => (m.still (t1.trans x (fun _ _ h => h))).fl.ok' ot)
  have HLN : RowKit.Hid (∀ W, Touch W1 W (fun _ => False) → (Builtin.len_ #[61] 3 #[.map (some h.fm)]).run Tryz.prog W = .ok (.int .i64 s.F.length) W) := Lib.hid (fun W x => (m.still (t1.trans x (fun _ _ h => h))).fl.len _)
  have HI8 := Lib.hid infoFl8
  have HM := Lib.hid m
  have HT1 := Lib.hid t1
  have HLE : RowKit.Hid (s.F.length ≤ 256) := Lib.hid m.ok.fl
  have HOT := Lib.hid ot
  have HG1 := Lib.hid g1
  have HW1 := Lib.hid hW1
  obtain ⟨t0, f1, f2, f3⟩ := f
  simp only at HLK HOT
  show Calls _ _ _ w fun e w' => e = .returned (.int .i64 (stPutE s.F t0)) ∧ OwnFl w' h.fm (stPutF s.F (flOf0 t0 f1 f2 f3)) ∧ Touch w w' (fun k => k = h.fm)
  obtain ⟨G, hG⟩ : ∃ G, getF s.F t0 = G := ⟨_, rfl⟩
  obtain ⟨b, hbb⟩ : ∃ b, hasF s.F t0 = b := ⟨_, rfl⟩
  rw [hG, hbb] at HLK
  have HHB := Lib.hid hbb
  obtain ⟨⟨a1, a2, a3, a4, a5⟩, fb, fg, fs⟩ := G
  obtain ⟨t1', t2, t3, t4, t5, ht0⟩ : ∃ x1 x2 x3 x4 x5, t0 = ⟨x1, x2, x3, x4, x5⟩ := ⟨_, _, _, _, _, rfl⟩
  have HT0 := Lib.hid ht0
  simp only [fca, tcs] at HLK HG1 HW1 ⊢
  rw [ht0] at HLK HG1 HW1
  simp only at HLK HG1 HW1
  have HGB : RowKit.Hid (∀ W, Touch W1 W (fun _ => False) → _) := Lib.hid (fun W t => cells8_of (t.keeps HG1.out (fun h => h)))
  have e1 : t0.src = t1' ∧ t0.dst = t2 ∧ t0.proto = t3 ∧ t0.sport = t4 ∧ t0.dport = t5 := by rw [ht0]; exact ⟨rfl, rfl, rfl, rfl, rfl⟩
  obtain ⟨e1, e2, e3, e4, e5⟩ := e1
  rw [e1, e2, e3, e4, e5]
  clear m t1 g1 hW1 ot hG hbb ht0 e1 e2 e3 e4 e5
  go_enter Tryz.func22, Tryz.ntmps22
  go_upto_region 1 with (fail)
  rw [HW1.out]
  have hS := (Touch.refl W1 (fun _ => False)).drew
  refine wp_region_tree (fun w' => Touch W1 w' (fun _ => False)) (.take 0 (.take 1 (.take 2 (.take 3 (.take 4 (.take 5 (.take 6 (.take 7 (.take 8 (.take 9 (.one 10 (.one 11 (.take 12 .fin))))))))))))) (by kernel_rfl) (by kernel_rfl) (by kernel_rfl) (by kernel_rfl) hS ?_
  refine walkT_take ?_
  (refine takeN_take (v := ?_) (some 8) rfl rfl (fun _ _ _ h => h) (by rfl) ?_ ?_; rotate_left; (focus (intro w' hw'; have y0 := HCC.out w' hw'; have y1 := HLK.out w' hw'; obtain ⟨k1, k2, k3, k4, k5, -, -, -⟩ := HGB.out w' hw'; go_simp; (try with_reducible rfl))); (try simp only [Act.put, List.setIfInBounds_toArray, List.set_cons_zero, List.set_cons_succ]))
  refine walkT_take ?_
  (refine takeN_take (v := ?_) (some 9) rfl rfl (fun _ _ _ h => h) (by rfl) ?_ ?_; rotate_left; (focus (intro w' hw'; have y0 := HCC.out w' hw'; have y1 := HLK.out w' hw'; obtain ⟨k1, k2, k3, k4, k5, -, -, -⟩ := HGB.out w' hw'; go_simp; (try with_reducible rfl))); (try simp only [Act.put, List.setIfInBounds_toArray, List.set_cons_zero, List.set_cons_succ]))
  refine walkT_take ?_
  (refine takeN_take (v := ?_) (some 10) rfl rfl (fun _ _ _ h => h) (by rfl) ?_ ?_; rotate_left; (focus (intro w' hw'; have y0 := HCC.out w' hw'; have y1 := HLK.out w' hw'; obtain ⟨k1, k2, k3, k4, k5, -, -, -⟩ := HGB.out w' hw'; go_simp; (try with_reducible rfl))); (try simp only [Act.put, List.setIfInBounds_toArray, List.set_cons_zero, List.set_cons_succ]))
  refine walkT_take ?_
  (refine takeN_take (v := ?_) (some 11) rfl rfl (fun _ _ _ h => h) (by rfl) ?_ ?_; rotate_left; (focus (intro w' hw'; have y0 := HCC.out w' hw'; have y1 := HLK.out w' hw'; obtain ⟨k1, k2, k3, k4, k5, -, -, -⟩ := HGB.out w' hw'; go_simp; (try with_reducible rfl))); (try simp only [Act.put, List.setIfInBounds_toArray, List.set_cons_zero, List.set_cons_succ]))
  refine walkT_take ?_
  (refine takeN_take (v := ?_) (some 12) rfl rfl (fun _ _ _ h => h) (by rfl) ?_ ?_; rotate_left; (focus (intro w' hw'; have y0 := HCC.out w' hw'; have y1 := HLK.out w' hw'; obtain ⟨k1, k2, k3, k4, k5, -, -, -⟩ := HGB.out w' hw'; go_simp; (try with_reducible rfl))); (try simp only [Act.put, List.setIfInBounds_toArray, List.set_cons_zero, List.set_cons_succ]))
  refine walkT_take ?_
  (refine takeN_take (v := ?_) (some 13) rfl rfl (fun _ _ _ h => h) (by rfl) ?_ ?_; rotate_left; (focus (intro w' hw'; have y0 := HCC.out w' hw'; have y1 := HLK.out w' hw'; obtain ⟨k1, k2, k3, k4, k5, -, -, -⟩ := HGB.out w' hw'; go_simp; (try with_reducible rfl))); (try simp only [Act.put, List.setIfInBounds_toArray, List.set_cons_zero, List.set_cons_succ]))
  refine walkT_take ?_
  (refine takeN_take (v := ?_) (some 14) rfl rfl (fun _ _ _ h => h) (by rfl) ?_ ?_; rotate_left; (focus (intro w' hw'; have y0 := HCC.out w' hw'; have y1 := HLK.out w' hw'; obtain ⟨k1, k2, k3, k4, k5, -, -, -⟩ := HGB.out w' hw'; go_simp; (try with_reducible rfl))); (try simp only [Act.put, List.setIfInBounds_toArray, List.set_cons_zero, List.set_cons_succ]))
  refine walkT_take ?_
  (refine takeN_take (v := ?_) (some 7) rfl rfl (fun _ _ _ h => h) (by rfl) ?_ ?_; rotate_left; (focus (intro w' hw'; have y0 := HCC.out w' hw'; have y1 := HLK.out w' hw'; obtain ⟨k1, k2, k3, k4, k5, -, -, -⟩ := HGB.out w' hw'; go_simp; (try with_reducible rfl))); (try simp only [Act.put, List.setIfInBounds_toArray, List.set_cons_zero, List.set_cons_succ]))
  refine walkT_take ?_
  (refine takeN_take (v := ?_) (some 15) rfl rfl (fun _ _ _ h => h) (by rfl) ?_ ?_; rotate_left; (focus (intro w' hw'; have y0 := HCC.out w' hw'; have y1 := HLK.out w' hw'; obtain ⟨k1, k2, k3, k4, k5, -, -, -⟩ := HGB.out w' hw'; go_simp; (try with_reducible rfl))); (try simp only [Act.put, List.setIfInBounds_toArray, List.set_cons_zero, List.set_cons_succ]))
  refine walkT_take ?_
  (refine takeN_take (v := ?_) (some 16) rfl rfl (fun _ _ _ h => h) (by rfl) ?_ ?_; rotate_left; (focus (intro w' hw'; have y0 := HCC.out w' hw'; have y1 := HLK.out w' hw'; obtain ⟨k1, k2, k3, k4, k5, -, -, -⟩ := HGB.out w' hw'; go_simp; (try with_reducible rfl))); (try simp only [Act.put, List.setIfInBounds_toArray, List.set_cons_zero, List.set_cons_succ]))
  refine walkT_one ?_
  (refine runN_new 5 (fun W => .pointer (some ⟨W.heap.size, 0, none⟩)) #[.int .u32 0, .int .u32 0, .int .i64 0, .int .i64 0, .int .i64 0, .int .i64 0, .int .i64 0, .int .i64 0] 39 rfl rfl (by rfl) (by intro W; go_simp <;> first | with_reducible rfl | rfl | exact ⟨rfl, rfl⟩) ?_; intro w7 hw7 hM7 hs7 t9; have hS := hS.trans t9 (fun _ _ h => h.elim); have HM7 := Lib.hid hM7; refine ⟨hS, fun _ => ?_⟩; clear hw7 hM7 hs7 t9; (try simp only [Act.put, List.setIfInBounds_toArray, List.set_cons_zero, List.set_cons_succ]))
  refine walkT_one ?_
  (refine runN_store rfl rfl (by rfl) 39 _ _ rfl _ #[.int .u32 a1, .int .u32 a2, .int .i64 a3, .int .i64 a4, .int .i64 a5, .int .i64 fb, .int .i64 fg, .int .i64 fs] rfl rfl _ _ HM7.out HI8.out rfl rfl ?_; intro w8 h8 t8; have hS := hS.trans t8 (fun k hk h => by have h : k = W1.heap.size := h; omega); refine ⟨hS, fun _ => ?_⟩; clear h8 t8; (try simp only [Act.put, List.setIfInBounds_toArray, List.set_cons_zero, List.set_cons_succ]))
  refine walkT_take ?_
  (refine takeN_take (v := ?_) (some 6) rfl rfl (fun _ _ _ h => h) (by rfl) ?_ ?_; rotate_left; (focus (intro w' hw'; have y0 := HCC.out w' hw'; have y1 := HLK.out w' hw'; obtain ⟨k1, k2, k3, k4, k5, -, -, -⟩ := HGB.out w' hw'; go_simp; (try with_reducible rfl))); (try simp only [Act.put, List.setIfInBounds_toArray, List.set_cons_zero, List.set_cons_succ]))
  refine walkT_fin ?_
  have HS := Lib.hid hS
  have x3 := HCC.out w8 hS
  have hlen := HLN.out w8 hS
  clear hS
  cases b with
  | true =>
    have e0 : stPutE s.F t0 = 0 := by unfold stPutE; rw [HHB.out, if_pos rfl]
    have HE0 := Lib.hid e0
    clear e0
    have HC4 : RowKit.Hid (∀ W, Touch w8 W (fun k => k = h.fm) → W.cell? ⟨b0, 3, none⟩ = some (.map (some h.fm))) := Lib.hid (fun W t => cell_of_cells (t.keeps (HS.out.keeps (HT1.out.keeps HM.out.head (fun h => h)) (fun h => h)) HM.out.ne.2.1) 3)
    have HG4 : RowKit.Hid (∀ W, Touch w8 W (fun k => k = h.fm) → W.heap[w.heap.size]? = some (.cells #[.int .u32 t1', .int .u32 t2, .int .i64 t3, .int .i64 t4, .int .i64 t5, .int .i64 f1, .int .i64 f2, .int .i64 f3] 39 (0, 0))) := Lib.hid (fun W t => t.keeps (HS.out.keeps HG1.out (fun h => h)) (fun e => by have e : w.heap.size = h.fm := e; have := HM.out.fl.lt; omega))
    have HGC : RowKit.Hid (∀ W, Touch w8 W (fun k => k = h.fm) → _) := Lib.hid (fun W t => cells8_of (HG4.out W t))
    go_upto_region 4 with (fail)
    have hS := (Touch.refl w8 (fun k => k = h.fm)).drew
    refine wp_region_tree (fun w' => Touch w8 w' (fun k => k = h.fm)) (.take 0 (.take 1 (.take 2 (.take 3 (.take 4 (.take 5 (.take 6 (.one 7 .fin)))))))) (by kernel_rfl) (by kernel_rfl) (by kernel_rfl) (by kernel_rfl) hS ?_
    refine walkT_take ?_
    (refine takeN_take (v := ?_) (some 27) rfl rfl (fun _ _ _ h => h) (by rfl) ?_ ?_; rotate_left; (focus (intro w' hw'; have y0 := HC4.out w' hw'; obtain ⟨k1, k2, k3, k4, k5, -, -, -⟩ := HGC.out w' hw'; go_simp; (try with_reducible rfl))); (try simp only [Act.put, List.setIfInBounds_toArray, List.set_cons_zero, List.set_cons_succ]))
    refine walkT_take ?_
    (refine takeN_take (v := ?_) (some 28) rfl rfl (fun _ _ _ h => h) (by rfl) ?_ ?_; rotate_left; (focus (intro w' hw'; have y0 := HC4.out w' hw'; obtain ⟨k1, k2, k3, k4, k5, -, -, -⟩ := HGC.out w' hw'; go_simp; (try with_reducible rfl))); (try simp only [Act.put, List.setIfInBounds_toArray, List.set_cons_zero, List.set_cons_succ]))
    refine walkT_take ?_
    (refine takeN_take (v := ?_) (some 29) rfl rfl (fun _ _ _ h => h) (by rfl) ?_ ?_; rotate_left; (focus (intro w' hw'; have y0 := HC4.out w' hw'; obtain ⟨k1, k2, k3, k4, k5, -, -, -⟩ := HGC.out w' hw'; go_simp; (try with_reducible rfl))); (try simp only [Act.put, List.setIfInBounds_toArray, List.set_cons_zero, List.set_cons_succ]))
    refine walkT_take ?_
    (refine takeN_take (v := ?_) (some 30) rfl rfl (fun _ _ _ h => h) (by rfl) ?_ ?_; rotate_left; (focus (intro w' hw'; have y0 := HC4.out w' hw'; obtain ⟨k1, k2, k3, k4, k5, -, -, -⟩ := HGC.out w' hw'; go_simp; (try with_reducible rfl))); (try simp only [Act.put, List.setIfInBounds_toArray, List.set_cons_zero, List.set_cons_succ]))
    refine walkT_take ?_
    (refine takeN_take (v := ?_) (some 31) rfl rfl (fun _ _ _ h => h) (by rfl) ?_ ?_; rotate_left; (focus (intro w' hw'; have y0 := HC4.out w' hw'; obtain ⟨k1, k2, k3, k4, k5, -, -, -⟩ := HGC.out w' hw'; go_simp; (try with_reducible rfl))); (try simp only [Act.put, List.setIfInBounds_toArray, List.set_cons_zero, List.set_cons_succ]))
    refine walkT_take ?_
    (refine takeN_take (v := ?_) (some 32) rfl rfl (fun _ _ _ h => h) (by rfl) ?_ ?_; rotate_left; (focus (intro w' hw'; have y0 := HC4.out w' hw'; obtain ⟨k1, k2, k3, k4, k5, -, -, -⟩ := HGC.out w' hw'; go_simp; (try with_reducible rfl))); (try simp only [Act.put, List.setIfInBounds_toArray, List.set_cons_zero, List.set_cons_succ]))
    refine walkT_take ?_
    (refine takeN_row (some 33) rfl rfl 39 (.tmp 3) rfl (w.heap.size) rfl _ _ _ _ (fun w' h => HG4.out w' h) Tryz.underlying39 rfl HI8.out (fun _ _ _ h => h) (by rfl) ?_; (try simp only [Act.put, List.setIfInBounds_toArray, List.set_cons_zero, List.set_cons_succ]))
    refine walkT_one ?_
    (obtain ⟨w9, hst, o9, t9⟩ := (HM.out.fl.still ((HT1.out.trans HS.out (fun _ _ h => h)).drew)).store (by have := HLE.out; omega) (flOf0 t0 f1 f2 f3) HOT.out; have hst : (Instr.mapUpdate 61 (.map (some h.fm)) (.agg #[.int .u32 t1', .int .u32 t2, .int .i64 t3, .int .i64 t4, .int .i64 t5]) (.agg #[.int .u32 t1', .int .u32 t2, .int .i64 t3, .int .i64 t4, .int .i64 t5, .int .i64 f1, .int .i64 f2, .int .i64 f3])).run Tryz.prog w8.drew = .ok () w9 := (by have := hst; unfold flOf0 at this; rw [HT0.out] at this; exact this); refine runN_skip0 none rfl rfl (by rfl) (w' := w9) (by go_simp; (try with_reducible rfl)) ?_ ?_; (exact (Touch.refl w8 (fun k => k = h.fm)).drew.trans t9 (fun _ _ h => h)); intro hS; (try simp only [Act.put, List.setIfInBounds_toArray, List.set_cons_zero, List.set_cons_succ]))
    refine walkT_fin ?_
    have HO9 := Lib.hid o9
    have HT9 := Lib.hid (((HT1.out.trans HS.out (fun _ _ h => h)).mono (T := fun k => k = h.fm) (fun _ _ h => h.elim)).trans hS (fun _ _ h => h))
    clear o9 t9 hst hS
    go_wp2_with fail
    go_ret
    refine ⟨by rw [HE0.out]; rfl, ?_, HT9.out⟩
    unfold stPutF
    rw [if_pos (show stPutE s.F (flOf0 t0 f1 f2 f3).t = 0 from HE0.out)]
    exact HO9.out
  | false =>
    by_cases hge : 256 ≤ s.F.length
    · have e0 : stPutE s.F t0 = 9 := by unfold stPutE; rw [HHB.out, if_neg (by decide), if_pos hge]
      have HE0 := Lib.hid e0
      have hgI : (256 : Int) ≤ (s.F.length : Int) := by omega
      have HOM := Lib.hid (HM.out.fl.still (HT1.out.trans HS.out (fun _ _ h => h)))
      have HTM := Lib.hid ((HT1.out.trans HS.out (fun _ _ h => h)).mono (T := fun k => k = h.fm) (fun _ _ h => h.elim))
      clear e0
      go_wp2_with fail
      go_ret
      refine ⟨by rw [HE0.out]; rfl, ?_, HTM.out⟩
      unfold stPutF
      rw [if_neg (show ¬ stPutE s.F (flOf0 t0 f1 f2 f3).t = 0 from by rw [show stPutE s.F (flOf0 t0 f1 f2 f3).t = 9 from HE0.out]; decide)]
      exact HOM.out
    · have e0 : stPutE s.F t0 = 0 := by unfold stPutE; rw [HHB.out, if_neg (by decide), if_neg hge]
      have HE0 := Lib.hid e0
      have hgI : ¬ (256 : Int) ≤ (s.F.length : Int) := by omega
      clear e0
      have HC4 : RowKit.Hid (∀ W, Touch w8 W (fun k => k = h.fm) → W.cell? ⟨b0, 3, none⟩ = some (.map (some h.fm))) := Lib.hid (fun W t => cell_of_cells (t.keeps (HS.out.keeps (HT1.out.keeps HM.out.head (fun h => h)) (fun h => h)) HM.out.ne.2.1) 3)
      have HG4 : RowKit.Hid (∀ W, Touch w8 W (fun k => k = h.fm) → W.heap[w.heap.size]? = some (.cells #[.int .u32 t1', .int .u32 t2, .int .i64 t3, .int .i64 t4, .int .i64 t5, .int .i64 f1, .int .i64 f2, .int .i64 f3] 39 (0, 0))) := Lib.hid (fun W t => t.keeps (HS.out.keeps HG1.out (fun h => h)) (fun e => by have e : w.heap.size = h.fm := e; have := HM.out.fl.lt; omega))
      have HGC : RowKit.Hid (∀ W, Touch w8 W (fun k => k = h.fm) → _) := Lib.hid (fun W t => cells8_of (HG4.out W t))
      go_upto_region 4 with (fail)
      have hS := (Touch.refl w8 (fun k => k = h.fm)).drew
      refine wp_region_tree (fun w' => Touch w8 w' (fun k => k = h.fm)) (.take 0 (.take 1 (.take 2 (.take 3 (.take 4 (.take 5 (.take 6 (.one 7 .fin)))))))) (by kernel_rfl) (by kernel_rfl) (by kernel_rfl) (by kernel_rfl) hS ?_
      refine walkT_take ?_
      (refine takeN_take (v := ?_) (some 27) rfl rfl (fun _ _ _ h => h) (by rfl) ?_ ?_; rotate_left; (focus (intro w' hw'; have y0 := HC4.out w' hw'; obtain ⟨k1, k2, k3, k4, k5, -, -, -⟩ := HGC.out w' hw'; go_simp; (try with_reducible rfl))); (try simp only [Act.put, List.setIfInBounds_toArray, List.set_cons_zero, List.set_cons_succ]))
      refine walkT_take ?_
      (refine takeN_take (v := ?_) (some 28) rfl rfl (fun _ _ _ h => h) (by rfl) ?_ ?_; rotate_left; (focus (intro w' hw'; have y0 := HC4.out w' hw'; obtain ⟨k1, k2, k3, k4, k5, -, -, -⟩ := HGC.out w' hw'; go_simp; (try with_reducible rfl))); (try simp only [Act.put, List.setIfInBounds_toArray, List.set_cons_zero, List.set_cons_succ]))
      refine walkT_take ?_
      (refine takeN_take (v := ?_) (some 29) rfl rfl (fun _ _ _ h => h) (by rfl) ?_ ?_; rotate_left; (focus (intro w' hw'; have y0 := HC4.out w' hw'; obtain ⟨k1, k2, k3, k4, k5, -, -, -⟩ := HGC.out w' hw'; go_simp; (try with_reducible rfl))); (try simp only [Act.put, List.setIfInBounds_toArray, List.set_cons_zero, List.set_cons_succ]))
      refine walkT_take ?_
      (refine takeN_take (v := ?_) (some 30) rfl rfl (fun _ _ _ h => h) (by rfl) ?_ ?_; rotate_left; (focus (intro w' hw'; have y0 := HC4.out w' hw'; obtain ⟨k1, k2, k3, k4, k5, -, -, -⟩ := HGC.out w' hw'; go_simp; (try with_reducible rfl))); (try simp only [Act.put, List.setIfInBounds_toArray, List.set_cons_zero, List.set_cons_succ]))
      refine walkT_take ?_
      (refine takeN_take (v := ?_) (some 31) rfl rfl (fun _ _ _ h => h) (by rfl) ?_ ?_; rotate_left; (focus (intro w' hw'; have y0 := HC4.out w' hw'; obtain ⟨k1, k2, k3, k4, k5, -, -, -⟩ := HGC.out w' hw'; go_simp; (try with_reducible rfl))); (try simp only [Act.put, List.setIfInBounds_toArray, List.set_cons_zero, List.set_cons_succ]))
      refine walkT_take ?_
      (refine takeN_take (v := ?_) (some 32) rfl rfl (fun _ _ _ h => h) (by rfl) ?_ ?_; rotate_left; (focus (intro w' hw'; have y0 := HC4.out w' hw'; obtain ⟨k1, k2, k3, k4, k5, -, -, -⟩ := HGC.out w' hw'; go_simp; (try with_reducible rfl))); (try simp only [Act.put, List.setIfInBounds_toArray, List.set_cons_zero, List.set_cons_succ]))
      refine walkT_take ?_
      (refine takeN_row (some 33) rfl rfl 39 (.tmp 3) rfl (w.heap.size) rfl _ _ _ _ (fun w' h => HG4.out w' h) Tryz.underlying39 rfl HI8.out (fun _ _ _ h => h) (by rfl) ?_; (try simp only [Act.put, List.setIfInBounds_toArray, List.set_cons_zero, List.set_cons_succ]))
      refine walkT_one ?_
      (obtain ⟨w9, hst, o9, t9⟩ := (HM.out.fl.still ((HT1.out.trans HS.out (fun _ _ h => h)).drew)).store (by have := HLE.out; omega) (flOf0 t0 f1 f2 f3) HOT.out; have hst : (Instr.mapUpdate 61 (.map (some h.fm)) (.agg #[.int .u32 t1', .int .u32 t2, .int .i64 t3, .int .i64 t4, .int .i64 t5]) (.agg #[.int .u32 t1', .int .u32 t2, .int .i64 t3, .int .i64 t4, .int .i64 t5, .int .i64 f1, .int .i64 f2, .int .i64 f3])).run Tryz.prog w8.drew = .ok () w9 := (by have := hst; unfold flOf0 at this; rw [HT0.out] at this; exact this); refine runN_skip0 none rfl rfl (by rfl) (w' := w9) (by go_simp; (try with_reducible rfl)) ?_ ?_; (exact (Touch.refl w8 (fun k => k = h.fm)).drew.trans t9 (fun _ _ h => h)); intro hS; (try simp only [Act.put, List.setIfInBounds_toArray, List.set_cons_zero, List.set_cons_succ]))
      refine walkT_fin ?_
      have HO9 := Lib.hid o9
      have HT9 := Lib.hid (((HT1.out.trans HS.out (fun _ _ h => h)).mono (T := fun k => k = h.fm) (fun _ _ h => h.elim)).trans hS (fun _ _ h => h))
      clear o9 t9 hst hS
      go_wp2_with fail
      go_ret
      refine ⟨by rw [HE0.out]; rfl, ?_, HT9.out⟩
      unfold stPutF
      rw [if_pos (show stPutE s.F (flOf0 t0 f1 f2 f3).t = 0 from HE0.out)]
      exact HO9.out
set_option maxRecDepth 20000 in
set_option maxHeartbeats 4000000 in
theorem stdrain_any (w : World) (b0 : Nat) (h : StH) (s : StS) (m : StM w b0 h s) (b u : Int) (hb : i64D b) (hu : i64D u) :
    Calls Tryz.prog 24 #[.pointer (some ⟨b0, 0, none⟩), .int .i64 b, .int .i64 u] w fun e w' => e = .returned (.int .i64 (stDrE s.D b)) ∧ OwnZ w' 3 2 h.dm (stDrD s.D ⟨b, u⟩) ∧ Touch w w' (fun k => k = h.dm) := by
  obtain ⟨-, -, c2, -⟩ := m.cells
  have hlk := m.dr.ok (t := 60) Tryz.underlying3 Tryz.underlying2 Tryz.underlying60 (zeroI64S w) hb
  have hln := m.dr.len (t := 60) Tryz.underlying60 3
  have hle := m.ok.dl
  obtain ⟨w9, hst, o9, t9⟩ := m.dr.store (t := 60) Tryz.underlying3 Tryz.underlying2 Tryz.underlying60 (by omega) ⟨b, u⟩ hb hu
  simp only at hst o9
  have HR := Lib.hid (And.intro o9 t9)
  have HM := Lib.hid m
  cases hh : hasD s.D b with
  | true =>
    have e0 : stDrE s.D b = 0 := by unfold stDrE; rw [hh, if_pos rfl]
    have e1 : stDrD s.D ⟨b, u⟩ = ⟨b, u⟩ :: delD s.D b := by unfold stDrD; rw [if_pos e0]
    rw [e0, e1]
    rw [hh] at hlk
    clear m o9 t9 e0 e1 hh hle
    go_enter Tryz.func24, Tryz.ntmps24
    go_wp2_with fail
    go_ret
    exact ⟨rfl, HR.out⟩
  | false =>
    rw [hh] at hlk
    by_cases hge : 16 ≤ s.D.length
    · have e0 : stDrE s.D b = 9 := by unfold stDrE; rw [hh, if_neg (by decide), if_pos hge]
      have e1 : stDrD s.D ⟨b, u⟩ = s.D := by unfold stDrD; rw [if_neg (by simp only; rw [e0]; decide)]
      rw [e0, e1]
      have hgI : (16 : Int) ≤ (s.D.length : Int) := by omega
      clear m o9 t9 e0 e1 hh hle hst
      go_enter Tryz.func24, Tryz.ntmps24
      go_wp2_with fail
      go_ret
      exact ⟨rfl, HM.out.dr, Touch.refl _ _⟩
    · have e0 : stDrE s.D b = 0 := by unfold stDrE; rw [hh, if_neg (by decide), if_neg hge]
      have e1 : stDrD s.D ⟨b, u⟩ = ⟨b, u⟩ :: delD s.D b := by unfold stDrD; rw [if_pos e0]
      rw [e0, e1]
      have hgI : ¬ (16 : Int) ≤ (s.D.length : Int) := by omega
      clear m o9 t9 e0 e1 hh hle
      go_enter Tryz.func24, Tryz.ntmps24
      go_wp2_with fail
      go_ret
      exact ⟨rfl, HR.out⟩
set_option maxRecDepth 20000 in
set_option maxHeartbeats 4000000 in
theorem stfollow_any (w : World) (b0 : Nat) (h : StH) (s : StS) (m : StM w b0 h s) (g : Int) (a : Option Addr) (cap : Nat) (bs : List BkD) (hg : cntB g = true) (hr : RowK w a bs.length cap bs) (hl : bs.length ≤ 100000) :
    Calls Tryz.prog 23 #[.pointer (some ⟨b0, 0, none⟩), .int .i64 g, .slice a bs.length cap] w fun e w' => e = .returned (.int .i64 (stFoE bs)) ∧ StTo w w' b0 h (stFoS s g bs) := by
  have HGM := Lib.hid (gmay_any a bs.length cap bs w hr)
  have HM := Lib.hid m
  have HRB := Lib.hid hr
  have HG := Lib.hid hg
  cases hb : gmay bs with
  | false =>
    rw [hb] at HGM
    clear m hr hg
    rw [show stFoE bs = 1 from by unfold stFoE; rw [hb]; rfl, show stFoS s g bs = s from by unfold stFoS; rw [hb]; rfl]
    clear hb
    go_enter Tryz.func23, Tryz.ntmps23
    go_wp2_with fail
    refine HGM.out.mono ?_
    rintro e w1 ⟨rfl, t1⟩
    have HR := Lib.hid (show StTo w w1 b0 h s from ⟨h, HM.out.still t1, rfl, rfl, t1.mono (fun _ _ h => h.elim)⟩)
    clear t1
    go_wp2_with fail
    go_ret
    exact ⟨rfl, HR.out⟩
  | true =>
    rw [hb] at HGM
    have HB := Lib.hid hb
    clear m hr hg
    rw [show stFoE bs = 0 from by unfold stFoE; rw [hb]; rfl, show stFoS s g bs = { s with gen := g, bs := bs } from by unfold stFoS; rw [hb]; rfl]
    clear hb
    go_enter Tryz.func23, Tryz.ntmps23
    go_wp2_with fail
    refine HGM.out.mono ?_
    rintro e w1 ⟨rfl, t1⟩
    have HT1 := Lib.hid t1
    have HCL := Lib.hid (cloneK_any a bs.length cap bs w1 (HRB.out.still t1) hl)
    clear t1
    go_wp2_with fail
    refine HCL.out.mono ?_
    rintro e w2 ⟨a2, c2, rfl, o2, t2⟩
    have tt := HT1.out.trans t2 (fun _ _ h => h)
    have m2 := HM.out.still tt
    obtain ⟨x0, x1, x2, x3⟩ := m2.cells
    have f0 := free_of_cells m2.head 0
    have f1 := free_of_cells m2.head 1
    have g3 := heap_setCell_same w2 b0 0 _ _ (.int .i64 g) m2.head
    obtain ⟨w3, hw3⟩ : ∃ W, w2.setCell ⟨b0, 0, none⟩ (.int .i64 g) = W := ⟨_, rfl⟩
    rw [hw3] at g3
    have y0 := cell_of_cells g3 0
    have y1 := cell_of_cells g3 1
    have fr0 := free_of_cells g3 0
    have fr1 := free_of_cells g3 1
    have g4 := heap_setCell_same w3 b0 1 _ _ (.slice a2 bs.length c2) g3
    obtain ⟨w4, hw4⟩ : ∃ W, w3.setCell ⟨b0, 1, none⟩ (.slice a2 bs.length c2) = W := ⟨_, rfl⟩
    rw [hw4] at g4
    have t3 : Touch w2 w3 (fun k => k = b0) := hw3 ▸ (Touch.refl w2 _).into 0 _
    have t4 : Touch w3 w4 (fun k => k = b0) := hw4 ▸ (Touch.refl w3 _).into 1 _
    have t24 := t3.trans t4 (fun _ _ h => h)
    have hrow := (o2.row').2
    have HR : RowKit.Hid (StTo w w4 b0 h { s with gen := g, bs := bs }) := Lib.hid ⟨⟨h.dm, h.fm, a2, c2⟩, ⟨g4, m2.dr.touch t24 (fun e => m2.ne.1 e.symm), m2.fl.touch t24 (fun e => m2.ne.2.1 e.symm), RowK.touch (show RowK w2 a2 bs.length c2 bs from hrow.1) t24 (fun x hx => .inr (fun e => by have e : x.block = b0 := e; have h1 := (hrow.2 x hx).1; have h2 := heap_lt HM.out.head; have := HT1.out.size; omega)), fun x hx => .inr (by
      have h1 := (hrow.2 x hx).1
      have h2 := heap_lt HM.out.head
      have h3 := HM.out.dr.lt
      have h4 := HM.out.fl.lt
      have h5 := HT1.out.size
      exact ⟨by omega, by simp only; omega, by simp only; omega⟩), m2.ne, ⟨HG.out, HB.out, m2.ok.fl, m2.ok.dl, m2.ok.fk, m2.ok.dk, m2.ok.fn, m2.ok.dn⟩⟩, rfl, rfl, (tt.mono (T := footS b0 h) (fun _ _ h => h.elim)).trans t24 (fun k _ e => .inl e)⟩
    have HW := Lib.hid (And.intro hw3 hw4)
    clear o2 t2 tt m2 g3 g4 hw3 hw4 t3 t4 t24 hrow
    go_wp2_with fail
    go_ret
    rw [HW.out.1, HW.out.2]
    exact ⟨rfl, HR.out⟩
end Go.Proofs.YtdhimlkndpiacaaGreat
