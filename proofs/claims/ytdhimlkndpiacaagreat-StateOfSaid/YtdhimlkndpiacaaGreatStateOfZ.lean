/- StateOf answers true for any two views. -/
import Derived.Test.YtdhimlkndpiacaaGreatStVAZ
import Derived.Test.YtdhimlkndpiacaaGreatStAwakeZ
import Derived.Test.YtdhimlkndpiacaaGreatJCZ
import Derived.Test.YtdhimlkndpiacaaGreatFrStateOfZ
set_option linter.unusedVariables false
set_option linter.unusedSimpArgs false
namespace Go.Proofs.YtdhimlkndpiacaaGreat
open Go.RowKit

theorem enter_awakeOf (w : World) : (callFunc 6 #[]).run Tryz.prog w = .ok (.enter 6 #[]) w := by kernel_rfl
set_option maxRecDepth 20000 in
set_option maxHeartbeats 16000000 in
theorem stateOf_walk (W0 : World) (x : StS) (a1 : Option Addr) (c1 : Nat) (a2 : Option Addr) (c2 : Nat) (a3 : Option Addr) (c3 : Nat) (hx : VwAt W0 x a1 c1 a2 c2 a3 c3) (okx : VwOk x) (y : StS) (b1 : Option Addr) (d1 : Nat) (b2 : Option Addr) (d2 : Nat) (b3 : Option Addr) (d3 : Nat) (hy : VwAt W0 y b1 d1 b2 d2 b3 d3) :
    Calls Tryz.prog 4 #[.agg (vcs x a1 c1 a2 c2 a3 c3), .agg (vcs y b1 d1 b2 d2 b3 d3)] W0 fun e w' => e = .returned (.bool true) ∧ Touch W0 w' (fun _ => False) := by
  obtain ⟨W1, hW1⟩ : ∃ W, W0.alloc (.cells (vcs x a1 c1 a2 c2 a3 c3) 35) = W := ⟨_, rfl⟩
  have t1 : Touch W0 W1 (fun _ => False) := hW1 ▸ (Touch.refl W0 _).alloc _
  have g1 : W1.heap[W0.heap.size]? = some (.cells (vcs x a1 c1 a2 c2 a3 c3) 35 (0, 0)) := hW1 ▸ heap_alloc_new ..
  obtain ⟨W2, hW2⟩ : ∃ W, W1.alloc (.cells (vcs y b1 d1 b2 d2 b3 d3) 35) = W := ⟨_, rfl⟩
  have t2 : Touch W1 W2 (fun _ => False) := hW2 ▸ (Touch.refl W1 _).alloc _
  have g2 : W2.heap[W1.heap.size]? = some (.cells (vcs y b1 d1 b2 d2 b3 d3) 35 (0, 0)) := hW2 ▸ heap_alloc_new ..
  obtain ⟨K1, hK1⟩ : ∃ K, W0.heap.size = K := ⟨_, rfl⟩
  have s1 : W1.heap.size = W0.heap.size + 1 := by rw [← hW1]; simp
  rw [s1] at g2
  obtain ⟨K2, hK2⟩ : ∃ K, W0.heap.size + 1 = K := ⟨_, rfl⟩
  rw [hK1] at g1
  rw [hK2] at g2
  have g12 := t2.keeps g1 (fun h => h)
  have hT0 := t1.trans t2 (fun _ _ h => h)
  have HGA : RowKit.Hid (∀ W, Touch W2 W (fun _ => False) → W.heap[K1]? = some (.cells (vcs x a1 c1 a2 c2 a3 c3) 35 (0, 0))) := Lib.hid (fun W t => t.keeps g12 (fun h => h))
  have HGB : RowKit.Hid (∀ W, Touch W2 W (fun _ => False) → W.heap[K2]? = some (.cells (vcs y b1 d1 b2 d2 b3 d3) 35 (0, 0))) := Lib.hid (fun W t => t.keeps g2 (fun h => h))
  have HVX : RowKit.Hid (∀ W, Touch W2 W (fun _ => False) → VwAt W x a1 c1 a2 c2 a3 c3) := Lib.hid (fun W t => (hx.still hT0).still t)
  have HVY : RowKit.Hid (∀ W, Touch W2 W (fun _ => False) → VwAt W y b1 d1 b2 d2 b3 d3) := Lib.hid (fun W t => (hy.still hT0).still t)
  have HT0 := Lib.hid hT0
  have HOK := Lib.hid okx
  have HN2 := Lib.hid (Touch.refl W2 (fun _ => False))
  have HW1 := Lib.hid (And.intro hW1 hK1)
  have HW2 := Lib.hid (And.intro hW2 hK2)
  have x1 : W2.cell? ⟨K1, 1, none⟩ = some (.slice a1 x.bs.length c1) := cell_of_cells g12 1
  have x2 : W2.cell? ⟨K1, 2, none⟩ = some (.slice a2 x.D.length c2) := cell_of_cells g12 2
  have x3 : W2.cell? ⟨K1, 3, none⟩ = some (.slice a3 x.F.length c3) := cell_of_cells g12 3
  have x0 : W2.cell? ⟨K1, 0, none⟩ = some (.int .i64 x.gen) := cell_of_cells g12 0
  simp only [vcs] at HW1 HW2 ⊢
  clear hx okx hy t1 t2 g1 g2 g12 hT0 hW1 hW2 hK1 hK2 s1
  go_enter Tryz.func4, Tryz.ntmps4
  go_upto_region 1 with (fail)
  rw [HW1.out.1, HW2.out.1, HW2.out.2, HW1.out.2]
  by_cases hf : x.F.length ≤ 300 ∧ x.bs.length ≤ 40 ∧ x.D.length ≤ 60
  case neg =>
    by_cases h1 : (x.F.length : Int) > 300
    · clear hf
      go_wp2_with fail
      refine (awake14 W2).mono ?_
      rintro e w3 ⟨rfl, t3⟩
      have HS9 := Lib.hid t3
      clear t3 x0 x1 x2 x3
      go_wp2_with fail
      go_ret
      exact ⟨rfl, HT0.out.trans HS9.out (fun _ _ h => h)⟩
    · by_cases h2 : (x.bs.length : Int) > 40
      · clear hf
        go_wp2_with fail
        refine (awake14 W2).mono ?_
        rintro e w3 ⟨rfl, t3⟩
        have HS9 := Lib.hid t3
        clear t3 x0 x1 x2 x3
        go_wp2_with fail
        go_ret
        exact ⟨rfl, HT0.out.trans HS9.out (fun _ _ h => h)⟩
      · have h3 : (x.D.length : Int) > 60 := by omega
        clear hf
        go_wp2_with fail
        refine (awake14 W2).mono ?_
        rintro e w3 ⟨rfl, t3⟩
        have HS9 := Lib.hid t3
        clear t3 x0 x1 x2 x3
        go_wp2_with fail
        go_ret
        exact ⟨rfl, HT0.out.trans HS9.out (fun _ _ h => h)⟩
  case pos =>
  obtain ⟨hf1, hf2, hf3⟩ := hf
  have HOF : RowKit.Hid (∀ W, Touch W2 W (fun _ => False) → Calls Tryz.prog 18 #[.agg (vcs x a1 c1 a2 c2 a3 c3)] W fun e w' => OfIs W w' x (ofR (recsV x a1 c1) stZ) e) := Lib.hid (fun W t => stof_any W x a1 c1 a2 c2 a3 c3 (HVX.out W t) (by omega) (by omega) (by omega) (HOK.out.recs a1 c1))
  have HRO : RowKit.Hid (∀ W, Touch W2 W (fun _ => False) → Calls Tryz.prog 19 #[.agg (vcs x a1 c1 a2 c2 a3 c3)] W fun e w' => ROfIs W w' x (ofR (recsV x a1 c1) stZ) e) := Lib.hid (fun W t => rstof_any W x a1 c1 a2 c2 a3 c3 (HVX.out W t) (by omega) (by omega) (by omega) (HOK.out.recs a1 c1))
  have i1 : ¬ (x.F.length : Int) > 300 := by omega
  have i2 : ¬ (x.bs.length : Int) > 40 := by omega
  have i3 : ¬ (x.D.length : Int) > 60 := by omega
  obtain ⟨p, hp⟩ : ∃ p, ofR (recsV x a1 c1) stZ = p := ⟨_, rfl⟩
  rw [hp] at HOF HRO
  obtain ⟨Bxy, hxy⟩ : ∃ B, same14 x y = B := ⟨_, rfl⟩
  have HS1 : RowKit.Hid (∀ W, Touch W2 W (fun _ => False) → Calls Tryz.prog 20 #[.agg (vcs x a1 c1 a2 c2 a3 c3), .agg (vcs y b1 d1 b2 d2 b3 d3)] W fun e w' => e = .returned (.bool Bxy) ∧ Touch W w' (fun _ => False)) := Lib.hid (fun W t => hxy ▸ same14_any W x y a1 c1 a2 c2 a3 c3 b1 d1 b2 d2 b3 d3 (HVX.out W t) (HVY.out W t))
  have HS2 : RowKit.Hid (∀ W, Touch W2 W (fun _ => False) → Calls Tryz.prog 12 #[.agg (vcs x a1 c1 a2 c2 a3 c3), .agg (vcs y b1 d1 b2 d2 b3 d3)] W fun e w' => e = .returned (.bool Bxy) ∧ Touch W w' (fun _ => False)) := Lib.hid (fun W t => hxy ▸ rsame14_any W x y a1 c1 a2 c2 a3 c3 b1 d1 b2 d2 b3 d3 (HVX.out W t) (HVY.out W t))
  have HS3 : RowKit.Hid (∀ W, Touch W2 W (fun _ => False) → Calls Tryz.prog 20 #[.agg (vcs x a1 c1 a2 c2 a3 c3), .agg (vcs x a1 c1 a2 c2 a3 c3)] W fun e w' => e = .returned (.bool true) ∧ Touch W w' (fun _ => False)) := Lib.hid (fun W t => same14_refl x ▸ same14_any W x x a1 c1 a2 c2 a3 c3 a1 c1 a2 c2 a3 c3 (HVX.out W t) (HVX.out W t))
  have HOF2 := HOF
  have HRO2 := HRO
  simp only [vcs] at HOF2 HRO2
  clear hp hxy hf1 hf2 hf3 HOF HRO
  by_cases hb : p.1 = 0 ∧ same14 (vwS p.2) x = true
  case neg =>
    obtain ⟨E, hE⟩ : ∃ E, (if p.1 = 0 then 1 else p.1) = E := ⟨_, rfl⟩
    have HX1 : RowKit.Hid (∀ W w' e, OfIs W w' x p e → e = .returned (.tuple #[.pointer none, .int .i64 E]) ∧ Touch W w' (fun _ => False)) := Lib.hid (fun W w' e h => by
      rw [← hE]
      by_cases h0 : p.1 = 0
      · rw [if_pos h0]; exact h.2.1 h0 (by rw [Bool.eq_false_iff]; exact fun h2 => hb ⟨h0, h2⟩)
      · rw [if_neg h0]; exact h.1 h0)
    have HX2 : RowKit.Hid (∀ W w' e, ROfIs W w' x p e → e = .returned (.tuple #[.pointer none, .int .i64 E]) ∧ Touch W w' (fun _ => False)) := Lib.hid (fun W w' e h => by
      rw [← hE]
      by_cases h0 : p.1 = 0
      · rw [if_pos h0]; exact h.2.1 h0 (by rw [Bool.eq_false_iff]; exact fun h2 => hb ⟨h0, h2⟩)
      · rw [if_neg h0]; exact h.1 h0)
    clear hb hE
    go_wp2_with fail
    (with_reducible refine (HOF2.out _ HN2.out).mono ?_)
    intro e w3 h3
    obtain ⟨rfl, t3⟩ := HX1.out _ _ _ h3
    have HT3 := Lib.hid t3
    have g3 := HGA.out w3 t3
    clear h3 x0 x1 x2 x3
    have x0 : w3.cell? ⟨K1, 0, none⟩ = some (.int .i64 x.gen) := cell_of_cells g3 0
    have x1 : w3.cell? ⟨K1, 1, none⟩ = some (.slice a1 x.bs.length c1) := cell_of_cells g3 1
    have x2 : w3.cell? ⟨K1, 2, none⟩ = some (.slice a2 x.D.length c2) := cell_of_cells g3 2
    have x3 : w3.cell? ⟨K1, 3, none⟩ = some (.slice a3 x.F.length c3) := cell_of_cells g3 3
    clear t3 g3 i1 i2 i3
    go_wp2_with fail
    (with_reducible refine (HRO2.out _ HT3.out).mono ?_)
    intro e w4 h4
    obtain ⟨rfl, t4⟩ := HX2.out _ _ _ h4
    have HT4 := Lib.hid (HT3.out.trans t4 (fun _ _ h => h))
    clear h4 t4 x0 x1 x2 x3
    have HG4A : RowKit.Hid (∀ W, Touch w4 W (fun _ => False) → Touch W2 W (fun _ => False)) := Lib.hid (fun W t => HT4.out.trans t (fun _ _ h => h))
    have HGA := Lib.hid (fun W (t : Touch w4 W (fun _ => False)) => HGA.out W (HG4A.out W t))
    have HGB := Lib.hid (fun W (t : Touch w4 W (fun _ => False)) => HGB.out W (HG4A.out W t))
    have HS1 := Lib.hid (fun W (t : Touch w4 W (fun _ => False)) => HS1.out W (HG4A.out W t))
    have HS2 := Lib.hid (fun W (t : Touch w4 W (fun _ => False)) => HS2.out W (HG4A.out W t))
    have HS3 := Lib.hid (fun W (t : Touch w4 W (fun _ => False)) => HS3.out W (HG4A.out W t))
    go_upto_region 5 with (fail)
    have hS := (Touch.refl w4 (fun _ => False)).drew
    refine wp_region_sched (fun w' => Touch w4 w' (fun _ => False)) [(0, true), (1, true), (2, true), (3, true), (4, true), (5, true), (6, true), (7, true), (8, true), (9, true), (10, true), (11, true), (12, true), (14, true), (15, true), (13, false), (16, false), (17, true), (18, true), (19, true), (20, true), (21, true), (22, false), (23, true), (24, true)] (by kernel_rfl) (by kernel_rfl) rfl (by kernel_rfl) hS ?_
    (refine walkS_take (v := ?_) (some 36) rfl rfl (fun _ _ _ h => h) (by rfl) ?_ ?_; rotate_left; (focus (intro w' hw'; go_simp; (try with_reducible rfl))); (try simp only [Act.put, List.setIfInBounds_toArray, List.set_cons_zero, List.set_cons_succ]))
    (refine walkS_take (v := ?_) (some 37) rfl rfl (fun _ _ _ h => h) (by rfl) ?_ ?_; rotate_left; (focus (intro w' hw'; go_simp; (try with_reducible rfl))); (try simp only [Act.put, List.setIfInBounds_toArray, List.set_cons_zero, List.set_cons_succ]))
    (refine walkS_take (v := ?_) (some 38) rfl rfl (fun _ _ _ h => h) (by rfl) ?_ ?_; rotate_left; (focus (intro w' hw'; go_simp; (try with_reducible rfl))); (try simp only [Act.put, List.setIfInBounds_toArray, List.set_cons_zero, List.set_cons_succ]))
    (refine walkS_take (v := ?_) (some 39) rfl rfl (fun _ _ _ h => h) (by rfl) ?_ ?_; rotate_left; (focus (intro w' hw'; go_simp; (try with_reducible rfl))); (try simp only [Act.put, List.setIfInBounds_toArray, List.set_cons_zero, List.set_cons_succ]))
    first | (refine walkS_skip (some 40) rfl rfl (by rfl) (fun _ _ _ h => h) hS ?_; (try simp only [Act.put, List.setIfInBounds_toArray, List.set_cons_zero, List.set_cons_succ])) | (refine walkS_take (v := ?_) (some 40) rfl rfl (fun _ _ _ h => h) (by rfl) ?_ ?_; rotate_left; (focus (intro w' hw'; go_simp; (try with_reducible rfl))); (try simp only [Act.put, List.setIfInBounds_toArray, List.set_cons_zero, List.set_cons_succ]))
    first | (refine walkS_skip (some 41) rfl rfl (by rfl) (fun _ _ _ h => h) hS ?_; (try simp only [Act.put, List.setIfInBounds_toArray, List.set_cons_zero, List.set_cons_succ])) | (refine walkS_take (v := ?_) (some 41) rfl rfl (fun _ _ _ h => h) (by rfl) ?_ ?_; rotate_left; (focus (intro w' hw'; go_simp; (try with_reducible rfl))); (try simp only [Act.put, List.setIfInBounds_toArray, List.set_cons_zero, List.set_cons_succ]))
    first | (refine walkS_skip (some 42) rfl rfl (by rfl) (fun _ _ _ h => h) hS ?_; (try simp only [Act.put, List.setIfInBounds_toArray, List.set_cons_zero, List.set_cons_succ])) | (refine walkS_take (v := ?_) (some 42) rfl rfl (fun _ _ _ h => h) (by rfl) ?_ ?_; rotate_left; (focus (intro w' hw'; go_simp; (try with_reducible rfl))); (try simp only [Act.put, List.setIfInBounds_toArray, List.set_cons_zero, List.set_cons_succ]))
    first | (refine walkS_skip (some 43) rfl rfl (by rfl) (fun _ _ _ h => h) hS ?_; (try simp only [Act.put, List.setIfInBounds_toArray, List.set_cons_zero, List.set_cons_succ])) | (refine walkS_take (v := ?_) (some 43) rfl rfl (fun _ _ _ h => h) (by rfl) ?_ ?_; rotate_left; (focus (intro w' hw'; go_simp; (try with_reducible rfl))); (try simp only [Act.put, List.setIfInBounds_toArray, List.set_cons_zero, List.set_cons_succ]))
    first | (refine walkS_skip (some 44) rfl rfl (by rfl) (fun _ _ _ h => h) hS ?_; (try simp only [Act.put, List.setIfInBounds_toArray, List.set_cons_zero, List.set_cons_succ])) | (refine walkS_take (v := ?_) (some 44) rfl rfl (fun _ _ _ h => h) (by rfl) ?_ ?_; rotate_left; (focus (intro w' hw'; go_simp; (try with_reducible rfl))); (try simp only [Act.put, List.setIfInBounds_toArray, List.set_cons_zero, List.set_cons_succ]))
    (refine walkS_take (v := ?_) (some 45) rfl rfl (fun _ _ _ h => h) (by rfl) ?_ ?_; rotate_left; (focus (intro w' hw'; go_simp; (try with_reducible rfl))); (try simp only [Act.put, List.setIfInBounds_toArray, List.set_cons_zero, List.set_cons_succ]))
    (refine walkS_take (v := ?_) (some 46) rfl rfl (fun _ _ _ h => h) (by rfl) ?_ ?_; rotate_left; (focus (intro w' hw'; go_simp; (try with_reducible rfl))); (try simp only [Act.put, List.setIfInBounds_toArray, List.set_cons_zero, List.set_cons_succ]))
    first | (refine walkS_skip (some 47) rfl rfl (by rfl) (fun _ _ _ h => h) hS ?_; (try simp only [Act.put, List.setIfInBounds_toArray, List.set_cons_zero, List.set_cons_succ])) | (refine walkS_row (some 47) rfl rfl 35 (.tmp 2) rfl (K1) rfl _ _ _ _ (fun w' h => HGA.out _ h) Tryz.underlying35 rfl (infoVF _ _ _ _ _ _ _) (fun _ _ _ h => h) (by rfl) ?_; (try simp only [Act.put, List.setIfInBounds_toArray, List.set_cons_zero, List.set_cons_succ]))
    first | (refine walkS_skip (some 48) rfl rfl (by rfl) (fun _ _ _ h => h) hS ?_; (try simp only [Act.put, List.setIfInBounds_toArray, List.set_cons_zero, List.set_cons_succ])) | (refine walkS_row (some 48) rfl rfl 35 (.tmp 3) rfl (K2) rfl _ _ _ _ (fun w' h => HGB.out _ h) Tryz.underlying35 rfl (infoVF _ _ _ _ _ _ _) (fun _ _ _ h => h) (by rfl) ?_; (try simp only [Act.put, List.setIfInBounds_toArray, List.set_cons_zero, List.set_cons_succ]))
    first | (refine walkS_skip (some 50) rfl rfl (by rfl) (fun _ _ _ h => h) hS ?_; (try simp only [Act.put, List.setIfInBounds_toArray, List.set_cons_zero, List.set_cons_succ])) | (refine walkS_row (some 50) rfl rfl 35 (.tmp 2) rfl (K1) rfl _ _ _ _ (fun w' h => HGA.out _ h) Tryz.underlying35 rfl (infoVF _ _ _ _ _ _ _) (fun _ _ _ h => h) (by rfl) ?_; (try simp only [Act.put, List.setIfInBounds_toArray, List.set_cons_zero, List.set_cons_succ]))
    first | (refine walkS_skip (some 51) rfl rfl (by rfl) (fun _ _ _ h => h) hS ?_; (try simp only [Act.put, List.setIfInBounds_toArray, List.set_cons_zero, List.set_cons_succ])) | (refine walkS_row (some 51) rfl rfl 35 (.tmp 3) rfl (K2) rfl _ _ _ _ (fun w' h => HGB.out _ h) Tryz.underlying35 rfl (infoVF _ _ _ _ _ _ _) (fun _ _ _ h => h) (by rfl) ?_; (try simp only [Act.put, List.setIfInBounds_toArray, List.set_cons_zero, List.set_cons_succ]))
    first | (refine walkS_skip (some 49) rfl rfl (by rfl) (fun _ _ _ h => h) hS ?_; (try simp only [Act.put, List.setIfInBounds_toArray, List.set_cons_zero, List.set_cons_succ])) | (refine walkS_call 49 _ _ _ _ ((HS1.out _ hS)) rfl rfl rfl (by rfl) rfl (enter_sameF _ _ _) ?_; rintro e w' ⟨rfl, t⟩; have hS := hS.trans t (fun _ _ h => h); clear t; refine ⟨_, rfl, hS, fun hS => ?_⟩; (try simp only [Act.put, List.setIfInBounds_toArray, List.set_cons_zero, List.set_cons_succ]))
    first | (refine walkS_skip (some 52) rfl rfl (by rfl) (fun _ _ _ h => h) hS ?_; (try simp only [Act.put, List.setIfInBounds_toArray, List.set_cons_zero, List.set_cons_succ])) | (refine walkS_call 52 _ _ _ _ ((HS2.out _ hS)) rfl rfl rfl (by rfl) rfl (enter_rsameV _ _ _) ?_; rintro e w' ⟨rfl, t⟩; have hS := hS.trans t (fun _ _ h => h); clear t; refine ⟨_, rfl, hS, fun hS => ?_⟩; (try simp only [Act.put, List.setIfInBounds_toArray, List.set_cons_zero, List.set_cons_succ]))
    first | (refine walkS_skip (some 53) rfl rfl (by rfl) (fun _ _ _ h => h) hS ?_; (try simp only [Act.put, List.setIfInBounds_toArray, List.set_cons_zero, List.set_cons_succ])) | (refine walkS_take (v := ?_) (some 53) rfl rfl (fun _ _ _ h => h) (by rfl) ?_ ?_; rotate_left; (focus (intro w' hw'; go_simp; (try with_reducible rfl))); (try simp only [Act.put, List.setIfInBounds_toArray, List.set_cons_zero, List.set_cons_succ]))
    (refine walkS_take (v := ?_) (some 54) rfl rfl (fun _ _ _ h => h) (by rfl) ?_ ?_; rotate_left; (focus (intro w' hw'; go_simp; (try with_reducible rfl))); (try simp only [Act.put, List.setIfInBounds_toArray, List.set_cons_zero, List.set_cons_succ]))
    (refine walkS_take (v := ?_) (some 55) rfl rfl (fun _ _ _ h => h) (by rfl) ?_ ?_; rotate_left; (focus (intro w' hw'; go_simp; (try with_reducible rfl))); (try simp only [Act.put, List.setIfInBounds_toArray, List.set_cons_zero, List.set_cons_succ]))
    first | (refine walkS_skip (some 56) rfl rfl (by rfl) (fun _ _ _ h => h) hS ?_; (try simp only [Act.put, List.setIfInBounds_toArray, List.set_cons_zero, List.set_cons_succ])) | (refine walkS_row (some 56) rfl rfl 35 (.tmp 2) rfl (K1) rfl _ _ _ _ (fun w' h => HGA.out _ h) Tryz.underlying35 rfl (infoVF _ _ _ _ _ _ _) (fun _ _ _ h => h) (by rfl) ?_; (try simp only [Act.put, List.setIfInBounds_toArray, List.set_cons_zero, List.set_cons_succ]))
    first | (refine walkS_skip (some 57) rfl rfl (by rfl) (fun _ _ _ h => h) hS ?_; (try simp only [Act.put, List.setIfInBounds_toArray, List.set_cons_zero, List.set_cons_succ])) | (refine walkS_row (some 57) rfl rfl 35 (.tmp 2) rfl (K1) rfl _ _ _ _ (fun w' h => HGA.out _ h) Tryz.underlying35 rfl (infoVF _ _ _ _ _ _ _) (fun _ _ _ h => h) (by rfl) ?_; (try simp only [Act.put, List.setIfInBounds_toArray, List.set_cons_zero, List.set_cons_succ]))
    first | (refine walkS_skip (some 58) rfl rfl (by rfl) (fun _ _ _ h => h) hS ?_; (try simp only [Act.put, List.setIfInBounds_toArray, List.set_cons_zero, List.set_cons_succ])) | (refine walkS_call 58 _ _ _ _ ((HS3.out _ hS)) rfl rfl rfl (by rfl) rfl (enter_sameF _ _ _) ?_; rintro e w' ⟨rfl, t⟩; have hS := hS.trans t (fun _ _ h => h); clear t; refine ⟨_, rfl, hS, fun hS => ?_⟩; (try simp only [Act.put, List.setIfInBounds_toArray, List.set_cons_zero, List.set_cons_succ]))
    first | (refine walkS_skip (some 59) rfl rfl (by rfl) (fun _ _ _ h => h) hS ?_; (try simp only [Act.put, List.setIfInBounds_toArray, List.set_cons_zero, List.set_cons_succ])) | (refine walkS_take (v := ?_) (some 59) rfl rfl (fun _ _ _ h => h) (by rfl) ?_ ?_; rotate_left; (focus (intro w' hw'; go_simp; (try with_reducible rfl))); (try simp only [Act.put, List.setIfInBounds_toArray, List.set_cons_zero, List.set_cons_succ]))
    (refine walkS_take (v := ?_) (some 60) rfl rfl (fun _ _ _ h => h) (by rfl) ?_ ?_; rotate_left; (focus (intro w' hw'; go_simp; (try with_reducible rfl))); (try simp only [Act.put, List.setIfInBounds_toArray, List.set_cons_zero, List.set_cons_succ]))
    refine walkS_done ?_
    go_upto_region 7 with (fail)
    go_wp2_with fail
    have hS := hS.drew
    refine wp_region_sched (fun w' => Touch w4 w' (fun _ => False)) [(0, true), (1, true), (2, true), (3, true), (5, true), (4, false), (6, false), (7, true), (8, true), (9, false), (10, true), (11, true)] (by kernel_rfl) (by kernel_rfl) rfl (by kernel_rfl) hS ?_
    (refine walkS_take (v := ?_) (some 61) rfl rfl (fun _ _ _ h => h) (by rfl) ?_ ?_; rotate_left; (focus (intro w' hw'; go_simp; (try with_reducible rfl))); (try simp only [Act.put, List.setIfInBounds_toArray, List.set_cons_zero, List.set_cons_succ]))
    (refine walkS_take (v := ?_) (some 62) rfl rfl (fun _ _ _ h => h) (by rfl) ?_ ?_; rotate_left; (focus (intro w' hw'; go_simp; (try with_reducible rfl))); (try simp only [Act.put, List.setIfInBounds_toArray, List.set_cons_zero, List.set_cons_succ]))
    (refine walkS_take (v := ?_) (some 63) rfl rfl (fun _ _ _ h => h) (by rfl) ?_ ?_; rotate_left; (focus (intro w' hw'; go_simp; (try with_reducible rfl))); (try simp only [Act.put, List.setIfInBounds_toArray, List.set_cons_zero, List.set_cons_succ]))
    first | (refine walkS_skip (some 64) rfl rfl (by rfl) (fun _ _ _ h => h) hS ?_; (try simp only [Act.put, List.setIfInBounds_toArray, List.set_cons_zero, List.set_cons_succ])) | (refine walkS_take (v := ?_) (some 64) rfl rfl (fun _ _ _ h => h) (by rfl) ?_ ?_; rotate_left; (focus (intro w' hw'; go_simp; (try with_reducible rfl))); (try simp only [Act.put, List.setIfInBounds_toArray, List.set_cons_zero, List.set_cons_succ]))
    first | (refine walkS_skip (some 66) rfl rfl (by rfl) (fun _ _ _ h => h) hS ?_; (try simp only [Act.put, List.setIfInBounds_toArray, List.set_cons_zero, List.set_cons_succ])) | (refine walkS_row (some 66) rfl rfl 35 (.tmp 2) rfl (K1) rfl _ _ _ _ (fun w' h => HGA.out _ h) Tryz.underlying35 rfl (infoVF _ _ _ _ _ _ _) (fun _ _ _ h => h) (by rfl) ?_; (try simp only [Act.put, List.setIfInBounds_toArray, List.set_cons_zero, List.set_cons_succ]))
    first | (refine walkS_skip (some 65) rfl rfl (by rfl) (fun _ _ _ h => h) hS ?_; (try simp only [Act.put, List.setIfInBounds_toArray, List.set_cons_zero, List.set_cons_succ])) | (refine walkS_call 65 _ _ _ _ ((stvw_any _ b hh p.2 (HM4.out.still hS))) rfl rfl rfl (by rfl) rfl (enter_viewF _ _) ?_; rintro e w' ⟨f1, g1, f2, g2, f3, g3, rfl, ⟨va, -⟩, t9⟩; have HSM := Lib.hid (rsame14_any w' _ _ _ _ _ _ _ _ _ _ _ _ _ _ va (HVX.out _ (hS.trans t9 (fun _ _ h => h)))); rw [HBB.out] at HSM; have hS := hS.trans t9 (fun _ _ h => h); clear va t9; refine ⟨_, rfl, hS, fun hS => ?_⟩; (try simp only [Act.put, List.setIfInBounds_toArray, List.set_cons_zero, List.set_cons_succ]))
    first | (refine walkS_skip (some 67) rfl rfl (by rfl) (fun _ _ _ h => h) hS ?_; (try simp only [Act.put, List.setIfInBounds_toArray, List.set_cons_zero, List.set_cons_succ])) | (refine walkS_call 67 _ _ _ _ (HSM.out) rfl rfl rfl (by rfl) rfl (enter_rsameV _ _ _) ?_; rintro e w' ⟨rfl, t⟩; have hS := hS.trans t (fun _ _ h => h); clear t; refine ⟨_, rfl, hS, fun hS => ?_⟩; (try simp only [Act.put, List.setIfInBounds_toArray, List.set_cons_zero, List.set_cons_succ]))
    (refine walkS_take (v := ?_) (some 68) rfl rfl (fun _ _ _ h => h) (by rfl) ?_ ?_; rotate_left; (focus (intro w' hw'; go_simp; (try with_reducible rfl))); (try simp only [Act.put, List.setIfInBounds_toArray, List.set_cons_zero, List.set_cons_succ]))
    (refine walkS_take (v := ?_) (some 69) rfl rfl (fun _ _ _ h => h) (by rfl) ?_ ?_; rotate_left; (focus (intro w' hw'; go_simp; (try with_reducible rfl))); (try simp only [Act.put, List.setIfInBounds_toArray, List.set_cons_zero, List.set_cons_succ]))
    first | (refine walkS_skip (some 70) rfl rfl (by rfl) (fun _ _ _ h => h) hS ?_; (try simp only [Act.put, List.setIfInBounds_toArray, List.set_cons_zero, List.set_cons_succ])) | (refine walkS_call 70 _ _ _ _ (awake14 _) rfl rfl rfl (by rfl) rfl (enter_awakeOf _) ?_; rintro e w' ⟨rfl, t⟩; have hS := hS.trans t (fun _ _ h => h); clear t; refine ⟨_, rfl, hS, fun hS => ?_⟩; (try simp only [Act.put, List.setIfInBounds_toArray, List.set_cons_zero, List.set_cons_succ]))
    (refine walkS_take (v := ?_) (some 71) rfl rfl (fun _ _ _ h => h) (by rfl) ?_ ?_; rotate_left; (focus (intro w' hw'; go_simp; (try with_reducible rfl))); (try simp only [Act.put, List.setIfInBounds_toArray, List.set_cons_zero, List.set_cons_succ]))
    (refine walkS_take (v := ?_) (some 4) rfl rfl (fun _ _ _ h => h) (by rfl) ?_ ?_; rotate_left; (focus (intro w' hw'; go_simp; (try with_reducible rfl))); (try simp only [Act.put, List.setIfInBounds_toArray, List.set_cons_zero, List.set_cons_succ]))
    refine walkS_done ?_
    have HS9 := Lib.hid (HT4.out.trans hS (fun _ _ h => h))
    clear hS
    go_wp2_with fail
    go_ret
    exact ⟨rfl, HT0.out.trans HS9.out (fun _ _ h => h)⟩
  case pos =>
    have HBB : RowKit.Hid (same14 (vwS p.2) x = true) := Lib.hid hb.2
    have HX1 : RowKit.Hid (∀ W w' e, OfIs W w' x p e → ∃ b h, e = .returned (.tuple #[.pointer (some ⟨b, 0, none⟩), .int .i64 0]) ∧ StN W w' b h p.2) := Lib.hid (fun W w' e h => h.2.2 hb.1 hb.2)
    have HX2 : RowKit.Hid (∀ W w' e, ROfIs W w' x p e → ∃ m, e = .returned (.tuple #[.pointer (some ⟨m, 0, none⟩), .int .i64 0]) ∧ Touch W w' (fun _ => False)) := Lib.hid (fun W w' e h => by
      obtain ⟨m, _, _, _, _, _, _, h1, _, h2⟩ := h.2.2 hb.1 hb.2
      exact ⟨m, h1, h2⟩)
    clear hb
    go_wp2_with fail
    (with_reducible refine (HOF2.out _ HN2.out).mono ?_)
    intro e w3 h3
    obtain ⟨b, hh, rfl, n3⟩ := HX1.out _ _ _ h3
    have t3 := n3.t
    have HN3 := Lib.hid n3
    have HT3 := Lib.hid t3
    have g3 := HGA.out w3 t3
    clear h3 x0 x1 x2 x3 n3
    have x0 : w3.cell? ⟨K1, 0, none⟩ = some (.int .i64 x.gen) := cell_of_cells g3 0
    have x1 : w3.cell? ⟨K1, 1, none⟩ = some (.slice a1 x.bs.length c1) := cell_of_cells g3 1
    have x2 : w3.cell? ⟨K1, 2, none⟩ = some (.slice a2 x.D.length c2) := cell_of_cells g3 2
    have x3 : w3.cell? ⟨K1, 3, none⟩ = some (.slice a3 x.F.length c3) := cell_of_cells g3 3
    clear t3 g3 i1 i2 i3
    go_wp2_with fail
    (with_reducible refine (HRO2.out _ HT3.out).mono ?_)
    intro e w4 h4
    obtain ⟨m, rfl, t4⟩ := HX2.out _ _ _ h4
    have HT4 := Lib.hid (HT3.out.trans t4 (fun _ _ h => h))
    have HM4 := Lib.hid (HN3.out.m.still t4)
    clear h4 t4 x0 x1 x2 x3
    have HG4A : RowKit.Hid (∀ W, Touch w4 W (fun _ => False) → Touch W2 W (fun _ => False)) := Lib.hid (fun W t => HT4.out.trans t (fun _ _ h => h))
    have HGA := Lib.hid (fun W (t : Touch w4 W (fun _ => False)) => HGA.out W (HG4A.out W t))
    have HGB := Lib.hid (fun W (t : Touch w4 W (fun _ => False)) => HGB.out W (HG4A.out W t))
    have HVX := Lib.hid (fun W (t : Touch w4 W (fun _ => False)) => HVX.out W (HG4A.out W t))
    have HS1 := Lib.hid (fun W (t : Touch w4 W (fun _ => False)) => HS1.out W (HG4A.out W t))
    have HS2 := Lib.hid (fun W (t : Touch w4 W (fun _ => False)) => HS2.out W (HG4A.out W t))
    have HS3 := Lib.hid (fun W (t : Touch w4 W (fun _ => False)) => HS3.out W (HG4A.out W t))
    go_upto_region 5 with (fail)
    have hS := (Touch.refl w4 (fun _ => False)).drew
    refine wp_region_sched (fun w' => Touch w4 w' (fun _ => False)) [(0, true), (1, true), (2, true), (3, true), (4, true), (5, true), (6, true), (7, true), (8, true), (9, true), (10, true), (11, true), (12, true), (14, true), (15, true), (13, false), (16, false), (17, true), (18, true), (19, true), (20, true), (21, true), (22, false), (23, true), (24, true)] (by kernel_rfl) (by kernel_rfl) rfl (by kernel_rfl) hS ?_
    (refine walkS_take (v := ?_) (some 36) rfl rfl (fun _ _ _ h => h) (by rfl) ?_ ?_; rotate_left; (focus (intro w' hw'; go_simp; (try with_reducible rfl))); (try simp only [Act.put, List.setIfInBounds_toArray, List.set_cons_zero, List.set_cons_succ]))
    (refine walkS_take (v := ?_) (some 37) rfl rfl (fun _ _ _ h => h) (by rfl) ?_ ?_; rotate_left; (focus (intro w' hw'; go_simp; (try with_reducible rfl))); (try simp only [Act.put, List.setIfInBounds_toArray, List.set_cons_zero, List.set_cons_succ]))
    (refine walkS_take (v := ?_) (some 38) rfl rfl (fun _ _ _ h => h) (by rfl) ?_ ?_; rotate_left; (focus (intro w' hw'; go_simp; (try with_reducible rfl))); (try simp only [Act.put, List.setIfInBounds_toArray, List.set_cons_zero, List.set_cons_succ]))
    (refine walkS_take (v := ?_) (some 39) rfl rfl (fun _ _ _ h => h) (by rfl) ?_ ?_; rotate_left; (focus (intro w' hw'; go_simp; (try with_reducible rfl))); (try simp only [Act.put, List.setIfInBounds_toArray, List.set_cons_zero, List.set_cons_succ]))
    first | (refine walkS_skip (some 40) rfl rfl (by rfl) (fun _ _ _ h => h) hS ?_; (try simp only [Act.put, List.setIfInBounds_toArray, List.set_cons_zero, List.set_cons_succ])) | (refine walkS_take (v := ?_) (some 40) rfl rfl (fun _ _ _ h => h) (by rfl) ?_ ?_; rotate_left; (focus (intro w' hw'; go_simp; (try with_reducible rfl))); (try simp only [Act.put, List.setIfInBounds_toArray, List.set_cons_zero, List.set_cons_succ]))
    first | (refine walkS_skip (some 41) rfl rfl (by rfl) (fun _ _ _ h => h) hS ?_; (try simp only [Act.put, List.setIfInBounds_toArray, List.set_cons_zero, List.set_cons_succ])) | (refine walkS_take (v := ?_) (some 41) rfl rfl (fun _ _ _ h => h) (by rfl) ?_ ?_; rotate_left; (focus (intro w' hw'; go_simp; (try with_reducible rfl))); (try simp only [Act.put, List.setIfInBounds_toArray, List.set_cons_zero, List.set_cons_succ]))
    first | (refine walkS_skip (some 42) rfl rfl (by rfl) (fun _ _ _ h => h) hS ?_; (try simp only [Act.put, List.setIfInBounds_toArray, List.set_cons_zero, List.set_cons_succ])) | (refine walkS_take (v := ?_) (some 42) rfl rfl (fun _ _ _ h => h) (by rfl) ?_ ?_; rotate_left; (focus (intro w' hw'; go_simp; (try with_reducible rfl))); (try simp only [Act.put, List.setIfInBounds_toArray, List.set_cons_zero, List.set_cons_succ]))
    first | (refine walkS_skip (some 43) rfl rfl (by rfl) (fun _ _ _ h => h) hS ?_; (try simp only [Act.put, List.setIfInBounds_toArray, List.set_cons_zero, List.set_cons_succ])) | (refine walkS_take (v := ?_) (some 43) rfl rfl (fun _ _ _ h => h) (by rfl) ?_ ?_; rotate_left; (focus (intro w' hw'; go_simp; (try with_reducible rfl))); (try simp only [Act.put, List.setIfInBounds_toArray, List.set_cons_zero, List.set_cons_succ]))
    first | (refine walkS_skip (some 44) rfl rfl (by rfl) (fun _ _ _ h => h) hS ?_; (try simp only [Act.put, List.setIfInBounds_toArray, List.set_cons_zero, List.set_cons_succ])) | (refine walkS_take (v := ?_) (some 44) rfl rfl (fun _ _ _ h => h) (by rfl) ?_ ?_; rotate_left; (focus (intro w' hw'; go_simp; (try with_reducible rfl))); (try simp only [Act.put, List.setIfInBounds_toArray, List.set_cons_zero, List.set_cons_succ]))
    (refine walkS_take (v := ?_) (some 45) rfl rfl (fun _ _ _ h => h) (by rfl) ?_ ?_; rotate_left; (focus (intro w' hw'; go_simp; (try with_reducible rfl))); (try simp only [Act.put, List.setIfInBounds_toArray, List.set_cons_zero, List.set_cons_succ]))
    (refine walkS_take (v := ?_) (some 46) rfl rfl (fun _ _ _ h => h) (by rfl) ?_ ?_; rotate_left; (focus (intro w' hw'; go_simp; (try with_reducible rfl))); (try simp only [Act.put, List.setIfInBounds_toArray, List.set_cons_zero, List.set_cons_succ]))
    first | (refine walkS_skip (some 47) rfl rfl (by rfl) (fun _ _ _ h => h) hS ?_; (try simp only [Act.put, List.setIfInBounds_toArray, List.set_cons_zero, List.set_cons_succ])) | (refine walkS_row (some 47) rfl rfl 35 (.tmp 2) rfl (K1) rfl _ _ _ _ (fun w' h => HGA.out _ h) Tryz.underlying35 rfl (infoVF _ _ _ _ _ _ _) (fun _ _ _ h => h) (by rfl) ?_; (try simp only [Act.put, List.setIfInBounds_toArray, List.set_cons_zero, List.set_cons_succ]))
    first | (refine walkS_skip (some 48) rfl rfl (by rfl) (fun _ _ _ h => h) hS ?_; (try simp only [Act.put, List.setIfInBounds_toArray, List.set_cons_zero, List.set_cons_succ])) | (refine walkS_row (some 48) rfl rfl 35 (.tmp 3) rfl (K2) rfl _ _ _ _ (fun w' h => HGB.out _ h) Tryz.underlying35 rfl (infoVF _ _ _ _ _ _ _) (fun _ _ _ h => h) (by rfl) ?_; (try simp only [Act.put, List.setIfInBounds_toArray, List.set_cons_zero, List.set_cons_succ]))
    first | (refine walkS_skip (some 50) rfl rfl (by rfl) (fun _ _ _ h => h) hS ?_; (try simp only [Act.put, List.setIfInBounds_toArray, List.set_cons_zero, List.set_cons_succ])) | (refine walkS_row (some 50) rfl rfl 35 (.tmp 2) rfl (K1) rfl _ _ _ _ (fun w' h => HGA.out _ h) Tryz.underlying35 rfl (infoVF _ _ _ _ _ _ _) (fun _ _ _ h => h) (by rfl) ?_; (try simp only [Act.put, List.setIfInBounds_toArray, List.set_cons_zero, List.set_cons_succ]))
    first | (refine walkS_skip (some 51) rfl rfl (by rfl) (fun _ _ _ h => h) hS ?_; (try simp only [Act.put, List.setIfInBounds_toArray, List.set_cons_zero, List.set_cons_succ])) | (refine walkS_row (some 51) rfl rfl 35 (.tmp 3) rfl (K2) rfl _ _ _ _ (fun w' h => HGB.out _ h) Tryz.underlying35 rfl (infoVF _ _ _ _ _ _ _) (fun _ _ _ h => h) (by rfl) ?_; (try simp only [Act.put, List.setIfInBounds_toArray, List.set_cons_zero, List.set_cons_succ]))
    first | (refine walkS_skip (some 49) rfl rfl (by rfl) (fun _ _ _ h => h) hS ?_; (try simp only [Act.put, List.setIfInBounds_toArray, List.set_cons_zero, List.set_cons_succ])) | (refine walkS_call 49 _ _ _ _ ((HS1.out _ hS)) rfl rfl rfl (by rfl) rfl (enter_sameF _ _ _) ?_; rintro e w' ⟨rfl, t⟩; have hS := hS.trans t (fun _ _ h => h); clear t; refine ⟨_, rfl, hS, fun hS => ?_⟩; (try simp only [Act.put, List.setIfInBounds_toArray, List.set_cons_zero, List.set_cons_succ]))
    first | (refine walkS_skip (some 52) rfl rfl (by rfl) (fun _ _ _ h => h) hS ?_; (try simp only [Act.put, List.setIfInBounds_toArray, List.set_cons_zero, List.set_cons_succ])) | (refine walkS_call 52 _ _ _ _ ((HS2.out _ hS)) rfl rfl rfl (by rfl) rfl (enter_rsameV _ _ _) ?_; rintro e w' ⟨rfl, t⟩; have hS := hS.trans t (fun _ _ h => h); clear t; refine ⟨_, rfl, hS, fun hS => ?_⟩; (try simp only [Act.put, List.setIfInBounds_toArray, List.set_cons_zero, List.set_cons_succ]))
    first | (refine walkS_skip (some 53) rfl rfl (by rfl) (fun _ _ _ h => h) hS ?_; (try simp only [Act.put, List.setIfInBounds_toArray, List.set_cons_zero, List.set_cons_succ])) | (refine walkS_take (v := ?_) (some 53) rfl rfl (fun _ _ _ h => h) (by rfl) ?_ ?_; rotate_left; (focus (intro w' hw'; go_simp; (try with_reducible rfl))); (try simp only [Act.put, List.setIfInBounds_toArray, List.set_cons_zero, List.set_cons_succ]))
    (refine walkS_take (v := ?_) (some 54) rfl rfl (fun _ _ _ h => h) (by rfl) ?_ ?_; rotate_left; (focus (intro w' hw'; go_simp; (try with_reducible rfl))); (try simp only [Act.put, List.setIfInBounds_toArray, List.set_cons_zero, List.set_cons_succ]))
    (refine walkS_take (v := ?_) (some 55) rfl rfl (fun _ _ _ h => h) (by rfl) ?_ ?_; rotate_left; (focus (intro w' hw'; go_simp; (try with_reducible rfl))); (try simp only [Act.put, List.setIfInBounds_toArray, List.set_cons_zero, List.set_cons_succ]))
    first | (refine walkS_skip (some 56) rfl rfl (by rfl) (fun _ _ _ h => h) hS ?_; (try simp only [Act.put, List.setIfInBounds_toArray, List.set_cons_zero, List.set_cons_succ])) | (refine walkS_row (some 56) rfl rfl 35 (.tmp 2) rfl (K1) rfl _ _ _ _ (fun w' h => HGA.out _ h) Tryz.underlying35 rfl (infoVF _ _ _ _ _ _ _) (fun _ _ _ h => h) (by rfl) ?_; (try simp only [Act.put, List.setIfInBounds_toArray, List.set_cons_zero, List.set_cons_succ]))
    first | (refine walkS_skip (some 57) rfl rfl (by rfl) (fun _ _ _ h => h) hS ?_; (try simp only [Act.put, List.setIfInBounds_toArray, List.set_cons_zero, List.set_cons_succ])) | (refine walkS_row (some 57) rfl rfl 35 (.tmp 2) rfl (K1) rfl _ _ _ _ (fun w' h => HGA.out _ h) Tryz.underlying35 rfl (infoVF _ _ _ _ _ _ _) (fun _ _ _ h => h) (by rfl) ?_; (try simp only [Act.put, List.setIfInBounds_toArray, List.set_cons_zero, List.set_cons_succ]))
    first | (refine walkS_skip (some 58) rfl rfl (by rfl) (fun _ _ _ h => h) hS ?_; (try simp only [Act.put, List.setIfInBounds_toArray, List.set_cons_zero, List.set_cons_succ])) | (refine walkS_call 58 _ _ _ _ ((HS3.out _ hS)) rfl rfl rfl (by rfl) rfl (enter_sameF _ _ _) ?_; rintro e w' ⟨rfl, t⟩; have hS := hS.trans t (fun _ _ h => h); clear t; refine ⟨_, rfl, hS, fun hS => ?_⟩; (try simp only [Act.put, List.setIfInBounds_toArray, List.set_cons_zero, List.set_cons_succ]))
    first | (refine walkS_skip (some 59) rfl rfl (by rfl) (fun _ _ _ h => h) hS ?_; (try simp only [Act.put, List.setIfInBounds_toArray, List.set_cons_zero, List.set_cons_succ])) | (refine walkS_take (v := ?_) (some 59) rfl rfl (fun _ _ _ h => h) (by rfl) ?_ ?_; rotate_left; (focus (intro w' hw'; go_simp; (try with_reducible rfl))); (try simp only [Act.put, List.setIfInBounds_toArray, List.set_cons_zero, List.set_cons_succ]))
    (refine walkS_take (v := ?_) (some 60) rfl rfl (fun _ _ _ h => h) (by rfl) ?_ ?_; rotate_left; (focus (intro w' hw'; go_simp; (try with_reducible rfl))); (try simp only [Act.put, List.setIfInBounds_toArray, List.set_cons_zero, List.set_cons_succ]))
    refine walkS_done ?_
    go_upto_region 7 with (fail)
    go_wp2_with fail
    clear HOF2 HRO2
    have hS := hS.drew
    refine wp_region_sched (fun w' => Touch w4 w' (fun _ => False)) [(0, true), (1, true), (2, true), (3, true), (5, true), (4, false), (6, false), (7, true), (8, true), (9, false), (10, true), (11, true)] (by kernel_rfl) (by kernel_rfl) rfl (by kernel_rfl) hS ?_
    (refine walkS_take (v := ?_) (some 61) rfl rfl (fun _ _ _ h => h) (by rfl) ?_ ?_; rotate_left; (focus (intro w' hw'; go_simp; (try with_reducible rfl))); (try simp only [Act.put, List.setIfInBounds_toArray, List.set_cons_zero, List.set_cons_succ]))
    (refine walkS_take (v := ?_) (some 62) rfl rfl (fun _ _ _ h => h) (by rfl) ?_ ?_; rotate_left; (focus (intro w' hw'; go_simp; (try with_reducible rfl))); (try simp only [Act.put, List.setIfInBounds_toArray, List.set_cons_zero, List.set_cons_succ]))
    (refine walkS_take (v := ?_) (some 63) rfl rfl (fun _ _ _ h => h) (by rfl) ?_ ?_; rotate_left; (focus (intro w' hw'; go_simp; (try with_reducible rfl))); (try simp only [Act.put, List.setIfInBounds_toArray, List.set_cons_zero, List.set_cons_succ]))
    first | (refine walkS_skip (some 64) rfl rfl (by rfl) (fun _ _ _ h => h) hS ?_; (try simp only [Act.put, List.setIfInBounds_toArray, List.set_cons_zero, List.set_cons_succ])) | (refine walkS_take (v := ?_) (some 64) rfl rfl (fun _ _ _ h => h) (by rfl) ?_ ?_; rotate_left; (focus (intro w' hw'; go_simp; (try with_reducible rfl))); (try simp only [Act.put, List.setIfInBounds_toArray, List.set_cons_zero, List.set_cons_succ]))
    first | (refine walkS_skip (some 66) rfl rfl (by rfl) (fun _ _ _ h => h) hS ?_; (try simp only [Act.put, List.setIfInBounds_toArray, List.set_cons_zero, List.set_cons_succ])) | (refine walkS_row (some 66) rfl rfl 35 (.tmp 2) rfl (K1) rfl _ _ _ _ (fun w' h => HGA.out _ h) Tryz.underlying35 rfl (infoVF _ _ _ _ _ _ _) (fun _ _ _ h => h) (by rfl) ?_; (try simp only [Act.put, List.setIfInBounds_toArray, List.set_cons_zero, List.set_cons_succ]))
    first | (refine walkS_skip (some 65) rfl rfl (by rfl) (fun _ _ _ h => h) hS ?_; (try simp only [Act.put, List.setIfInBounds_toArray, List.set_cons_zero, List.set_cons_succ])) | (refine walkS_call 65 _ _ _ _ ((stvw_any _ b hh p.2 (HM4.out.still hS))) rfl rfl rfl (by rfl) rfl (enter_viewF _ _) ?_; rintro e w' ⟨f1, g1, f2, g2, f3, g3, rfl, ⟨va, -⟩, t9⟩; have HSM := Lib.hid (rsame14_any w' _ _ _ _ _ _ _ _ _ _ _ _ _ _ va (HVX.out _ (hS.trans t9 (fun _ _ h => h)))); rw [HBB.out] at HSM; have hS := hS.trans t9 (fun _ _ h => h); clear va t9; refine ⟨_, rfl, hS, fun hS => ?_⟩; (try simp only [Act.put, List.setIfInBounds_toArray, List.set_cons_zero, List.set_cons_succ]))
    first | (refine walkS_skip (some 67) rfl rfl (by rfl) (fun _ _ _ h => h) hS ?_; (try simp only [Act.put, List.setIfInBounds_toArray, List.set_cons_zero, List.set_cons_succ])) | (refine walkS_call 67 _ _ _ _ (HSM.out) rfl rfl rfl (by rfl) rfl (enter_rsameV _ _ _) ?_; rintro e w' ⟨rfl, t⟩; have hS := hS.trans t (fun _ _ h => h); clear t; refine ⟨_, rfl, hS, fun hS => ?_⟩; (try simp only [Act.put, List.setIfInBounds_toArray, List.set_cons_zero, List.set_cons_succ]))
    (refine walkS_take (v := ?_) (some 68) rfl rfl (fun _ _ _ h => h) (by rfl) ?_ ?_; rotate_left; (focus (intro w' hw'; go_simp; (try with_reducible rfl))); (try simp only [Act.put, List.setIfInBounds_toArray, List.set_cons_zero, List.set_cons_succ]))
    (refine walkS_take (v := ?_) (some 69) rfl rfl (fun _ _ _ h => h) (by rfl) ?_ ?_; rotate_left; (focus (intro w' hw'; go_simp; (try with_reducible rfl))); (try simp only [Act.put, List.setIfInBounds_toArray, List.set_cons_zero, List.set_cons_succ]))
    first | (refine walkS_skip (some 70) rfl rfl (by rfl) (fun _ _ _ h => h) hS ?_; (try simp only [Act.put, List.setIfInBounds_toArray, List.set_cons_zero, List.set_cons_succ])) | (refine walkS_call 70 _ _ _ _ (awake14 _) rfl rfl rfl (by rfl) rfl (enter_awakeOf _) ?_; rintro e w' ⟨rfl, t⟩; have hS := hS.trans t (fun _ _ h => h); clear t; refine ⟨_, rfl, hS, fun hS => ?_⟩; (try simp only [Act.put, List.setIfInBounds_toArray, List.set_cons_zero, List.set_cons_succ]))
    (refine walkS_take (v := ?_) (some 71) rfl rfl (fun _ _ _ h => h) (by rfl) ?_ ?_; rotate_left; (focus (intro w' hw'; go_simp; (try with_reducible rfl))); (try simp only [Act.put, List.setIfInBounds_toArray, List.set_cons_zero, List.set_cons_succ]))
    (refine walkS_take (v := ?_) (some 4) rfl rfl (fun _ _ _ h => h) (by rfl) ?_ ?_; rotate_left; (focus (intro w' hw'; go_simp; (try with_reducible rfl))); (try simp only [Act.put, List.setIfInBounds_toArray, List.set_cons_zero, List.set_cons_succ]))
    refine walkS_done ?_
    have HS9 := Lib.hid (HT4.out.trans hS (fun _ _ h => h))
    clear hS
    go_wp2_with fail
    go_ret
    exact ⟨rfl, HT0.out.trans HS9.out (fun _ _ h => h)⟩
theorem stateOf_holds : Rows.StateOfSaid := by
  refine stateOf.said fun H enc W base v0 v1 d0 d1 p0 p1 h0 h1 => ?_
  obtain ⟨x, a1, c1, a2, c2, a3, c3, rfl, hx, ox⟩ := h0.stV
  obtain ⟨y, b1, d1', b2, d2, b3, d3, rfl, hy, _⟩ := h1.stV
  exact (stateOf_walk W x a1 c1 a2 c2 a3 c3 hx ox y b1 d1' b2 d2 b3 d3 hy).mono fun e w' h => ⟨h.1, h.2.below (fun _ _ h => h.elim) (Nat.le_refl _)⟩
end Go.Proofs.YtdhimlkndpiacaaGreat
