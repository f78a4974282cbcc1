/- StateApart answers true for any records. -/
import Derived.Test.YtdhimlkndpiacaaStVwZ
import Derived.Test.YtdhimlkndpiacaaTupArgsZ
import Derived.Test.YtdhimlkndpiacaaFrStateApartZ
set_option linter.unusedVariables false
set_option linter.unusedSimpArgs false
namespace Go.Proofs.Ytdhimlkndpiacaa
open Go.RowKit

theorem enter_view14 (a : Value) (w : World) : (callFunc 9 #[a]).run Try.prog w = .ok (.enter 9 #[a]) w := by kernel_rfl
theorem enter_same14 (a b : Value) (w : World) : (callFunc 17 #[a, b]).run Try.prog w = .ok (.enter 17 #[a, b]) w := by kernel_rfl
theorem enter_awake14 (w : World) : (callFunc 14 #[]).run Try.prog w = .ok (.enter 14 #[]) w := by kernel_rfl
theorem infoV14 (x : StS) (a1 : Option Addr) (c1 : Nat) (a2 : Option Addr) (c2 : Nat) (a3 : Option Addr) (c3 : Nat) : (Try.prog.info? 36).map (·.size) = some (vcs x a1 c1 a2 c2 a3 c3).size := infoSt4
theorem vcells_of {w : World} {B : Nat} {x : StS} {a1 : Option Addr} {c1 : Nat} {a2 : Option Addr} {c2 : Nat} {a3 : Option Addr} {c3 : Nat} (g : w.heap[B]? = some (.cells (vcs x a1 c1 a2 c2 a3 c3) 36 (0, 0))) :
    w.cell? ⟨B, 0, none⟩ = some (.int .i64 x.gen) ∧ w.cell? ⟨B, 1, none⟩ = some (.slice a1 x.bs.length c1) ∧ w.cell? ⟨B, 2, none⟩ = some (.slice a2 x.D.length c2) ∧ w.cell? ⟨B, 3, none⟩ = some (.slice a3 x.F.length c3) :=
  ⟨cell_of_cells g 0, cell_of_cells g 1, cell_of_cells g 2, cell_of_cells g 3⟩
def OkF (s : StS) : Prop := ∀ f ∈ s.F, TupOk f.t
theorem OkF.step {s : StS} (o : OkF s) {r : RecD} (ok : RecOk r) : OkF (stS s r) := by
  intro f hf
  unfold stS at hf
  by_cases h0 : stE s r = 0
  case neg => rw [if_neg h0] at hf; exact o f hf
  rw [if_pos h0] at hf
  unfold stDo at hf
  by_cases h1 : r.kind = 1
  · rw [if_pos h1] at hf
    rcases List.mem_cons.1 hf with rfl | hf
    · exact ok.t
    · exact o f (List.mem_filter.1 hf).1
  rw [if_neg h1] at hf
  by_cases h2 : r.kind = 2
  · rw [if_pos h2] at hf; exact o f (List.mem_filter.1 hf).1
  rw [if_neg h2] at hf
  by_cases h3 : r.kind = 3
  · rw [if_pos h3] at hf; exact o f hf
  rw [if_neg h3] at hf
  by_cases h4 : r.kind = 4
  · rw [if_pos h4] at hf; exact o f hf
  rw [if_neg h4] at hf
  by_cases h5 : r.kind = 5
  · rw [if_pos h5] at hf; exact o f hf
  rw [if_neg h5] at hf; exact o f hf
theorem okF_Z : OkF stZ := fun f hf => by cases hf
set_option maxRecDepth 20000 in
set_option maxHeartbeats 8000000 in
theorem stateApart_walk (w : World) (a : Option Addr) (c : Nat) (l : List RecB) (hr : RowRB w a l.length c l) (hok : ∀ x ∈ l, RecBOk w x) (r : RecD) (ra : Option Addr) (rc : Nat) (rok : RecOk r) (hrr : RowK w ra r.bs.length rc r.bs) :
    Calls Try.prog 6 #[.slice a l.length c, .agg (rcs r ra rc)] w fun e w' => e = .returned (.bool true) ∧ Touch w w' (fun _ => False) := by
  obtain ⟨W1, hW1⟩ : ∃ W, w.alloc (.cells (rcs r ra rc) 29) = W := ⟨_, rfl⟩
  have t1 : Touch w W1 (fun _ => False) := hW1 ▸ (Touch.refl w _).alloc _
  have g1 : W1.heap[w.heap.size]? = some (.cells (rcs r ra rc) 29 (0, 0)) := hW1 ▸ heap_alloc_new ..
  obtain ⟨K1, hK1⟩ : ∃ K, w.heap.size = K := ⟨_, rfl⟩
  rw [hK1] at g1
  have HT1 := Lib.hid t1
  have HG1 : RowKit.Hid (∀ W, Touch W1 W (fun _ => False) → W.heap[K1]? = some (.cells (rcs r ra rc) 29 (0, 0))) := Lib.hid (fun W t => t.keeps g1 (fun h => h))
  have HW1 := Lib.hid (And.intro hW1 hK1)
  have HR := Lib.hid hr
  have HOK := Lib.hid hok
  have HRO := Lib.hid (And.intro rok hrr)
  have hmx := RowS.hmax hr
  have hmc := RowS.hcap hr
  obtain ⟨n, hn⟩ : ∃ n, l.length = n := ⟨_, rfl⟩
  have HN := Lib.hid hn
  have HLI := Lib.hid (light_any W1 a l.length c l (RowS.still hr t1))
  rw [hn] at HR HLI hmc ⊢
  obtain ⟨y0, y1, y2, y3, y4, y5, y6, y7, y8, y9, y10, y11, y12, y13⟩ := rcells_of g1
  clear t1 g1 hW1 hK1 hr hok hn rok hrr
  go_enter Try.func6, Try.ntmps6
  go_upto_region 1 with (fail)
  rw [HW1.out.1, HW1.out.2]
  by_cases hl : lightB l = true
  case neg =>
    have hl' : lightB l = false := by simpa using hl
    rw [hl'] at HLI
    clear hl hl' y0 y1 y2 y3 y4 y5 y6 y7 y8 y9 y10 y11 y12 y13
    go_wp2_with fail
    (with_reducible refine HLI.out.mono ?_)
    rintro e W2 ⟨rfl, t2⟩
    have HT2 := Lib.hid t2
    clear t2
    go_wp2_with fail
    refine (awake14 W2).mono ?_
    rintro e w8 ⟨rfl, t8⟩
    have HT8 := Lib.hid ((HT1.out.trans HT2.out (fun _ _ h => h)).trans t8 (fun _ _ h => h))
    clear t8
    go_wp2_with fail
    go_ret
    exact ⟨rfl, HT8.out⟩
  case pos =>
  rw [hl] at HLI
  have HL := Lib.hid (lightB_iff.1 hl)
  clear hl y0 y1 y2 y3 y4 y5 y6 y7 y8 y9 y10 y11 y12 y13
  go_cut [34] (fun s34 wx => s34 = .bool (!lightR ⟨r, ra, rc⟩ || decide (r.kind = 3)) ∧ Touch W1 wx (fun _ => False))
  case first =>
    go_wp2_with fail
    (with_reducible refine HLI.out.mono ?_)
    rintro e W2 ⟨rfl, t2⟩
    have HT2 := Lib.hid t2
    obtain ⟨y0, y1, y2, y3, y4, y5, y6, y7, y8, y9, y10, y11, y12, y13⟩ := rcells_of (HG1.out _ t2)
    obtain ⟨W3, hW3⟩ : ∃ W, W2.alloc (.cells (rcs r ra rc) 29) = W := ⟨_, rfl⟩
    have t3 : Touch W2 W3 (fun _ => False) := hW3 ▸ (Touch.refl W2 _).alloc _
    have g3 : W3.heap[W2.heap.size]? = some (.cells (rcs r ra rc) 29 (0, 0)) := hW3 ▸ heap_alloc_new ..
    have HW3 := Lib.hid hW3
    have HT3 := Lib.hid t3
    have HL2 := Lib.hid (light_any W3 _ 1 1 [⟨r, ra, rc⟩] (oneRB (x := ⟨r, ra, rc⟩) g3))
    simp only [rcs] at HW3
    clear t2 t3 g3 hW3
    obtain ⟨B, hB⟩ : ∃ B, lightR ⟨r, ra, rc⟩ = B := ⟨_, rfl⟩
    have hB2 : lightB [⟨r, ra, rc⟩] = B := by rw [← hB]; unfold lightB; simp
    rw [hB2] at HL2
    have HBB := Lib.hid hB
    clear hB hB2
    go_wp2_with fail
    rw [HW3.out]
    (with_reducible refine HL2.out.mono ?_)
    rintro e W4 ⟨rfl, t4⟩
    have HT4 := Lib.hid (HT2.out.trans (HT3.out.trans t4 (fun _ _ h => h)) (fun _ _ h => h))
    clear t4 y0 y1 y2 y3 y4 y5 y6 y7 y8 y9 y10 y11 y12 y13
    have y0 := (rcells_of (HG1.out _ HT4.out)).1
    cases B
    case false =>
      go_wp2_with fail
      go_meet
      exact ⟨by rw [HBB.out]; rfl, HT4.out⟩
    case true =>
      by_cases h3 : r.kind = 3
      · go_wp2_with fail
        go_meet
        exact ⟨by rw [HBB.out]; simp [h3], HT4.out⟩
      · go_wp2_with fail
        go_meet
        exact ⟨by rw [HBB.out]; simp [h3], HT4.out⟩
  case rest =>
  obtain ⟨rfl, tc⟩ := hcut
  have HTC := Lib.hid tc
  clear tc HLI
  obtain ⟨B, hB⟩ : ∃ B, (!lightR ⟨r, ra, rc⟩ || decide (r.kind = 3)) = B := ⟨_, rfl⟩
  have HB := Lib.hid hB
  rw [hB]
  clear hB
  cases B
  case true =>
    go_wp2_with fail
    refine (awake14 wc).mono ?_
    rintro e w8 ⟨rfl, t8⟩
    have HT8 := Lib.hid ((HT1.out.trans HTC.out (fun _ _ h => h)).trans t8 (fun _ _ h => h))
    clear t8
    go_wp2_with fail
    go_ret
    exact ⟨rfl, HT8.out⟩
  case false =>
  have HR3 : RowKit.Hid (r.bs.length ≤ 40 ∧ r.kind ≠ 3) := Lib.hid (by
    have h := HB.out
    simp [lightR] at h
    exact ⟨h.1, h.2⟩)
  clear HB
  go_wp2_with fail
  refine (stnew_any wc).mono ?_
  rintro e w3 ⟨b, h0, rfl, n3⟩
  have HN3 := Lib.hid n3
  clear n3
  go_wp2_with fail
  go_loopw [39] (fun s39 wr => ∃ (k : Nat) (h : StH) (s : StS), k ≤ n ∧ s39 = .int .i64 k ∧ StN wc wr b h s ∧ OkF s) (fun s39 _ => n - (RowKit.intOf s39).toNat)
  case atStart => exact ⟨0, h0, stZ, Nat.zero_le _, rfl, HN3.out, okF_Z⟩
  case round =>
    obtain ⟨k, h, s, hk, rfl, hq, hof⟩ := hrel
    have HQ := Lib.hid hq
    have HOF := Lib.hid hof
    clear hq hof HN3
    by_cases hlt : k < n
    case pos =>
      have HRX := Lib.hid (RowS.still HR.out (HT1.out.trans (HTC.out.trans HQ.out.t (fun _ _ h => h)) (fun _ _ h => h)))
      obtain ⟨gr, off, rfl⟩ := HRX.out.some (by omega)
      obtain ⟨d0, d1, d2, d3, d4, d5, d6, d7, d8, d9, d10, d11, d12, d13⟩ := recB_cells HRX.out k (by have := HN.out; omega)
      have HXO := Lib.hid (HOK.out _ (grb_mem l k (by have := HN.out; omega)))
      have HXL := Lib.hid (HL.out.2 _ (grb_mem l k (by have := HN.out; omega)))
      obtain ⟨x, hx⟩ : ∃ x, grb l k = x := ⟨_, rfl⟩
      rw [hx] at d0 d1 d2 d3 d4 d5 d6 d7 d8 d9 d10 d11 d12 d13 HXO HXL
      clear hx
      obtain ⟨w6, hw6⟩ : ∃ W, wr.alloc (.cells (rcs x.r x.a x.c) 29) = W := ⟨_, rfl⟩
      have t6 : Touch wr w6 (fun _ => False) := hw6 ▸ (Touch.refl wr _).alloc _
      have g6 : w6.heap[wr.heap.size]? = some (.cells (rcs x.r x.a x.c) 29 (0, 0)) := hw6 ▸ heap_alloc_new ..
      have hlI : (k : Int) < n := by omega
      have HQ6 := Lib.hid (HQ.out.still t6)
      obtain ⟨K7, hK7⟩ : ∃ K, wr.heap.size = K := ⟨_, rfl⟩
      rw [hK7] at g6
      have HW6 := Lib.hid (And.intro hw6 hK7)
      have HXR := Lib.hid (RowS.still HXO.out.2 (HT1.out.trans (HTC.out.trans HQ6.out.t (fun _ _ h => h)) (fun _ _ h => h)))
      have HAP := Lib.hid (stapply_any w6 b h s HQ6.out.m x.r x.a x.c HXR.out (by have := HXL.out; omega) HXO.out.1)
      obtain ⟨y0, y1, y2, y3, y4, y5, y6, y7, y8, y9, y10, y11, y12, y13⟩ := rcells_of g6
      simp only [rcs] at HW6 HAP
      clear t6 g6 hw6 hK7
      go_upto_region 7 with (fail)
      rw [HW6.out.1, HW6.out.2]
      clear d0 d1 d2 d3 d4 d5 d6 d7 d8 d9 d10 d11 d12 d13
      go_wp2_with fail
      (with_reducible refine HAP.out.mono ?_)
      rintro e w7 ⟨rfl, s7⟩
      obtain ⟨h7, n7, -, -⟩ := HQ6.out.step s7
      have HX : RowKit.Hid (∃ (k' : Nat) (h : StH) (s : StS), k' ≤ n ∧ Value.int .i64 ((k : Int) + 1) = .int .i64 k' ∧ StN wc w7 b h s ∧ OkF s) := Lib.hid ⟨k + 1, h7, stS s x.r, by omega, by go_num, n7, HOF.out.step HXO.out.1⟩
      clear s7 n7 y0 y1 y2 y3 y4 y5 y6 y7 y8 y9 y10 y11 y12 y13
      go_wp2_with fail
      go_roundw
      · exact HX.out
      · simp only [RowKit.intOf]; omega
    case neg =>
    obtain rfl : n = k := by omega
    have hIrr : ¬ (n : Int) < n := by omega
    have HV8 := Lib.hid (stvw_any wr b h s HQ.out.m)
    simp only [vcs] at HV8
    clear hlt hk HR HN HL HOK
    go_upto_region 10 with (go_at_call 9; (with_reducible refine HV8.out.mono ?_); rintro e w7 ⟨a1, c1, a2, c2, a3, c3, rfl, ⟨va, vn⟩, t7⟩; have HVA := Lib.hid va; have HVN := Lib.hid vn; clear vn; have HT7 := Lib.hid t7; clear va t7)
    obtain ⟨w8, hw8⟩ : ∃ W, w7.alloc (.cells (vcs (vwS s) a1 c1 a2 c2 a3 c3) 36) = W := ⟨_, rfl⟩
    have t8 : Touch w7 w8 (fun _ => False) := hw8 ▸ (Touch.refl w7 _).alloc _
    have g8 : w8.heap[w7.heap.size]? = some (.cells (vcs (vwS s) a1 c1 a2 c2 a3 c3) 36 (0, 0)) := hw8 ▸ heap_alloc_new ..
    obtain ⟨K8, hK8⟩ : ∃ K, w7.heap.size = K := ⟨_, rfl⟩
    rw [hK8] at g8
    have HVA8 := Lib.hid (HVA.out.still t8)
    have HQ8 := Lib.hid ((HQ.out.still HT7.out).still t8)
    have HG8 := Lib.hid g8
    have HW8 := Lib.hid (And.intro hw8 hK8)
    have HF8 : RowKit.Hid (¬ footS b h K8) := Lib.hid (fun hf => by have := (HQ.out.still HT7.out).m.lt _ hf; omega)
    have HK8n : RowKit.Hid (K8 ≠ K1) := Lib.hid (fun e => by
      have h1 := HG1.out _ (HTC.out.trans (HQ.out.still HT7.out).t (fun _ _ h => h))
      have h2 := heap_lt h1
      omega)
    simp only [vcs] at HW8
    obtain ⟨y0, y1, y2, y3, y4, y5, y6, y7, y8, y9, y10, y11, y12, y13⟩ := rcells_of (HG1.out _ (HTC.out.trans HQ8.out.t (fun _ _ h => h)))
    have HRR := Lib.hid (RowS.still HRO.out.2 (HT1.out.trans (HTC.out.trans HQ8.out.t (fun _ _ h => h)) (fun _ _ h => h)))
    have HAP := Lib.hid (stapply_any w8 b h s HQ8.out.m r ra rc HRR.out (by have := HR3.out.1; omega) HRO.out.1)
    simp only [rcs] at HAP
    clear t8 g8 hw8 hK8 hIrr
    rw [HW8.out.1, HW8.out.2]
    have HLT8 : RowKit.Hid (∀ k, footS b h k → k < wr.heap.size) := Lib.hid HQ.out.m.lt
    by_cases hz : stE s r = 0
    case neg =>
      have hz' : (stE s r == 0) = false := by simpa using hz
      rw [stS_bad hz] at HAP
      go_upto_region 11 with (go_at_call 10; (with_reducible refine HAP.out.mono ?_); rintro e w9 ⟨rfl, s9⟩; have HS9 := Lib.hid s9; clear s9 y0 y1 y2 y3 y4 y5 y6 y7 y8 y9 y10 y11 y12 y13)
      have HG9 : RowKit.Hid (∀ W, Touch w9 W (fun _ => False) → W.heap[K8]? = some (.cells (vcs (vwS s) a1 c1 a2 c2 a3 c3) 36 (0, 0))) := Lib.hid (fun W t => t.keeps (HS9.out.touch.keeps HG8.out HF8.out) (fun h => h))
      have HVA9 := Lib.hid (HVA8.out.touch HVN.out HS9.out.touch HLT8.out)
      have h9n : RowKit.Hid (∃ h9, StN wc w9 b h9 s) := Lib.hid (by obtain ⟨h9, n9, -, -⟩ := HQ8.out.step HS9.out; exact ⟨h9, n9⟩)
      obtain ⟨h9, n9⟩ := h9n.out
      have HN9 := Lib.hid n9
      clear n9 hz hz'
      have hS := (Touch.refl w9 (fun _ => False)).drew
      refine wp_region_sched (fun w' => Touch w9 w' (fun _ => False)) [(0, true), (2, true), (1, false), (3, false), (4, true), (5, false), (6, true), (7, true)] (by kernel_rfl) (by kernel_rfl) rfl (by kernel_rfl) hS ?_
      (refine walkS_take (v := ?_) (some 53) rfl rfl (fun _ _ _ h => h) (by rfl) ?_ ?_; rotate_left; (focus (intro w' hw'; go_simp; (try with_reducible rfl))); (try simp only [Act.put, List.setIfInBounds_toArray, List.set_cons_zero, List.set_cons_succ]))
      (refine walkS_row (some 55) rfl rfl 36 (.tmp 8) rfl (K8) rfl _ _ _ _ (fun w' h => HG9.out _ h) Try.underlying36 rfl (infoV14 _ _ _ _ _ _ _) (fun _ _ _ h => h) (by rfl) ?_; (try simp only [Act.put, List.setIfInBounds_toArray, List.set_cons_zero, List.set_cons_succ]))
      (refine walkS_call 54 _ _ _ _ (stvw_any _ b h9 s (HN9.out.m.still hS)) rfl rfl rfl (by rfl) rfl (enter_view14 _ _) ?_; rintro e w' ⟨f1, g1, f2, g2, f3, g3, rfl, ⟨va, -⟩, t9⟩; have HSM := Lib.hid (same14_any w' _ _ _ _ _ _ _ _ _ _ _ _ _ _ va (HVA9.out.still (hS.trans t9 (fun _ _ h => h)))); rw [same14_refl] at HSM; have hS := hS.trans t9 (fun _ _ h => h); clear va t9; refine ⟨_, rfl, hS, fun hS => ?_⟩; (try simp only [Act.put, List.setIfInBounds_toArray, List.set_cons_zero, List.set_cons_succ]))
      (refine walkS_call 56 _ _ _ _ (HSM.out) rfl rfl rfl (by rfl) rfl (enter_same14 _ _ _) ?_; rintro e w' ⟨rfl, t⟩; have hS := hS.trans t (fun _ _ h => h); clear t; refine ⟨_, rfl, hS, fun hS => ?_⟩; (try simp only [Act.put, List.setIfInBounds_toArray, List.set_cons_zero, List.set_cons_succ]))
      (refine walkS_take (v := ?_) (some 57) rfl rfl (fun _ _ _ h => h) (by rfl) ?_ ?_; rotate_left; (focus (intro w' hw'; go_simp; (try with_reducible rfl))); (try simp only [Act.put, List.setIfInBounds_toArray, List.set_cons_zero, List.set_cons_succ]))
      first | (refine walkS_skip (some 58) rfl rfl (by rfl) (fun _ _ _ h => h) hS ?_; (try simp only [Act.put, List.setIfInBounds_toArray, List.set_cons_zero, List.set_cons_succ])) | (refine walkS_call 58 _ _ _ _ (awake14 _) rfl rfl rfl (by rfl) rfl (enter_awake14 _) ?_; rintro e w' ⟨rfl, t⟩; have hS := hS.trans t (fun _ _ h => h); clear t; refine ⟨_, rfl, hS, fun hS => ?_⟩; (try simp only [Act.put, List.setIfInBounds_toArray, List.set_cons_zero, List.set_cons_succ]))
      (refine walkS_take (v := ?_) (some 59) rfl rfl (fun _ _ _ h => h) (by rfl) ?_ ?_; rotate_left; (focus (intro w' hw'; go_simp; (try with_reducible rfl))); (try simp only [Act.put, List.setIfInBounds_toArray, List.set_cons_zero, List.set_cons_succ]))
      (refine walkS_take (v := ?_) (some 4) rfl rfl (fun _ _ _ h => h) (by rfl) ?_ ?_; rotate_left; (focus (intro w' hw'; go_simp; (try with_reducible rfl))); (try simp only [Act.put, List.setIfInBounds_toArray, List.set_cons_zero, List.set_cons_succ]))
      refine walkS_done ?_
      go_wp2_with fail
      go_ret
      exact ⟨rfl, HT1.out.trans (HTC.out.trans (HN9.out.t.trans hS (fun _ _ h => h)) (fun _ _ h => h)) (fun _ _ h => h)⟩
    case pos =>
    rw [hz] at HAP
    go_upto_region 12 with (go_at_call 10; (with_reducible refine HAP.out.mono ?_); rintro e w9 ⟨rfl, s9⟩; have HS9 := Lib.hid s9; clear s9 y0 y1 y2 y3 y4 y5 y6 y7 y8 y9 y10 y11 y12 y13)
    have HG9 : RowKit.Hid (∀ W, Touch w9 W (fun _ => False) → W.heap[K8]? = some (.cells (vcs (vwS s) a1 c1 a2 c2 a3 c3) 36 (0, 0))) := Lib.hid (fun W t => t.keeps (HS9.out.touch.keeps HG8.out HF8.out) (fun h => h))
    have HVA9 := Lib.hid (HVA8.out.touch HVN.out HS9.out.touch HLT8.out)
    have h9n : RowKit.Hid (∃ h9, StN wc w9 b h9 (stS s r)) := Lib.hid (by obtain ⟨h9, n9, -, -⟩ := HQ8.out.step HS9.out; exact ⟨h9, n9⟩)
    obtain ⟨h9, n9⟩ := h9n.out
    obtain ⟨eg, eb⟩ := apart_gen HR3.out.2 hz
    have HAD := Lib.hid (apart_drain HR3.out.2 hz)
    have HAF : RowKit.Hid (∀ f : FlD, f ∈ s.F → (flowB r = true → f.t ≠ r.t) → hasF (stS s r).F f.t = true ∧ getF (stS s r).F f.t = f) := Lib.hid (fun f hf hk => apart_flow HQ8.out.m.ok HR3.out.2 hz hf hk)
    have HDL : RowKit.Hid (s.D.length ≤ 16 ∧ (stS s r).D.length ≤ 16) := Lib.hid ⟨HQ8.out.m.ok.dl, n9.m.ok.dl⟩
    obtain ⟨s', hs'⟩ : ∃ s', stS s r = s' := ⟨_, rfl⟩
    rw [hs'] at n9 eg eb HAD HAF HDL
    have HEGB := Lib.hid (And.intro eg eb)
    have HN9 := Lib.hid n9
    have HV9 := Lib.hid (stvw_any w9 b h9 s' n9.m)
    simp only [vcs] at HV9
    clear n9 hz eg eb hs' h9n
    go_upto_region 13 with (go_at_call 9; (with_reducible refine HV9.out.mono ?_); rintro e w10 ⟨p1, q1, p2, q2, p3, q3, rfl, ⟨va, -⟩, t10⟩; have HVB := Lib.hid va; have HT10 := Lib.hid t10; clear va t10)
    obtain ⟨w11, hw11⟩ : ∃ W, w10.alloc (.cells (vcs (vwS s') p1 q1 p2 q2 p3 q3) 36) = W := ⟨_, rfl⟩
    have t11 : Touch w10 w11 (fun _ => False) := hw11 ▸ (Touch.refl w10 _).alloc _
    have g11 : w11.heap[w10.heap.size]? = some (.cells (vcs (vwS s') p1 q1 p2 q2 p3 q3) 36 (0, 0)) := hw11 ▸ heap_alloc_new ..
    obtain ⟨K9, hK9⟩ : ∃ K, w10.heap.size = K := ⟨_, rfl⟩
    rw [hK9] at g11
    have t911 := HT10.out.trans t11 (fun _ _ h => h)
    have HX11 : RowKit.Hid (∀ W, Touch w11 W (fun _ => False) → W.heap[K9]? = some (.cells (vcs (vwS s') p1 q1 p2 q2 p3 q3) 36 (0, 0)) ∧ W.heap[K8]? = some (.cells (vcs (vwS s) a1 c1 a2 c2 a3 c3) 36 (0, 0)) ∧ W.heap[K1]? = some (.cells (rcs r ra rc) 29 (0, 0)) ∧ VwAt W (vwS s) a1 c1 a2 c2 a3 c3 ∧ VwAt W (vwS s') p1 q1 p2 q2 p3 q3 ∧ StN wc W b h9 s') := Lib.hid (fun W t =>
      ⟨t.keeps g11 (fun h => h), HG9.out W (t911.trans t (fun _ _ h => h)), HG1.out W (HTC.out.trans ((HN9.out.still t911).still t).t (fun _ _ h => h)), HVA9.out.still (t911.trans t (fun _ _ h => h)), HVB.out.still (t11.trans t (fun _ _ h => h)), (HN9.out.still t911).still t⟩)
    have HW11 := Lib.hid (And.intro hw11 hK9)
    simp only [vcs] at HW11
    have h0 := HX11.out w11 (Touch.refl _ _)
    have HSB := Lib.hid (rsameK_any _ _ _ _ _ _ _ _ w11 h0.2.2.2.2.1.b h0.2.2.2.1.b)
    rw [show (vwS s').bs = s.bs from HEGB.out.2, show (vwS s).bs = s.bs from rfl, sameK_refl14] at HSB
    obtain ⟨v0, v1, -, -⟩ := vcells_of h0.1
    obtain ⟨u0, u1, -, -⟩ := vcells_of h0.2.1
    rw [show (vwS s').gen = s.gen from HEGB.out.1] at v0
    rw [show (vwS s').bs = s.bs from HEGB.out.2] at v1
    rw [show (vwS s).gen = s.gen from rfl] at u0
    rw [show (vwS s).bs = s.bs from rfl] at u1
    clear t11 g11 hw11 hK9 t911 h0
    rw [HW11.out.1, HW11.out.2]
    go_upto_region 15 with (go_at_call 19; (with_reducible refine HSB.out.mono ?_); rintro e w12 ⟨rfl, nn, rfl⟩)
    clear v0 v1 u0 u1
    have t12 : Touch w11 (w11.drewN nn) (fun _ => False) := (Touch.refl w11 _).drewN nn
    generalize w11.drewN nn = w12 at *
    have HT12 := Lib.hid t12
    clear t12
    have y0 := (rcells_of (HX11.out _ HT12.out).2.2.1).1
    go_cut [10] (fun s10 wx => s10 = .bool (flowB r) ∧ Touch w11 wx (fun _ => False))
    case first =>
      by_cases h1 : r.kind = 1
      · have HFB : RowKit.Hid (flowB r = true) := Lib.hid (by unfold flowB; simp [h1])
        go_wp2_with fail
        go_meet
        exact ⟨by rw [HFB.out], HT12.out⟩
      · by_cases h2 : r.kind = 2
        · have HFB : RowKit.Hid (flowB r = true) := Lib.hid (by unfold flowB; simp [h2])
          go_wp2_with fail
          go_meet
          exact ⟨by rw [HFB.out], HT12.out⟩
        · have HFB : RowKit.Hid (flowB r = false) := Lib.hid (by unfold flowB; simp [h1, h2])
          go_wp2_with fail
          go_meet
          exact ⟨by rw [HFB.out]; simp [h1, h2], HT12.out⟩
    case rest =>
    obtain ⟨rfl, t12⟩ := hcut
    have HT12 := Lib.hid t12
    clear t12 y0
    have q12 := HX11.out _ HT12.out
    obtain ⟨-, -, -, u3⟩ := vcells_of q12.2.1
    obtain ⟨FB, hFB⟩ : ∃ B, flowB r = B := ⟨_, rfl⟩
    have HFB := Lib.hid hFB
    obtain ⟨L, hL⟩ : ∃ L, (vwS s).F = L := ⟨_, rfl⟩
    have HLP : RowKit.Hid (∀ f ∈ L, f ∈ s.F) := Lib.hid (fun f hf => by rw [← hL] at hf; exact (srtF_perm s.F).mem_iff.1 hf)
    obtain ⟨m, hm⟩ : ∃ m, L.length = m := ⟨_, rfl⟩
    have HM := Lib.hid hm
    have HRW : RowKit.Hid (∀ W, Touch w11 W (fun _ => False) → RowS W a3 m c3 8 (L.map fcl)) := Lib.hid (fun W t => by have h1 := (HX11.out W t).2.2.2.1.f; rw [hL, hm] at h1; exact h1)
    rw [hL, hm] at u3
    rw [hFB]
    clear q12 hFB hL hm
    go_wp2_with fail
    go_loopw [86] (fun s86 wr => ∃ k : Nat, k ≤ m ∧ s86 = .int .i64 k ∧ Touch w11 wr (fun _ => False)) (fun s86 _ => m - (RowKit.intOf s86).toNat)
    case atStart => exact ⟨0, Nat.zero_le _, rfl, HT12.out⟩
    case round =>
      obtain ⟨k, hk, rfl, ht⟩ := hrel
      have HT := Lib.hid ht
      clear ht u3
      by_cases hlt : k < m
      case pos =>
        have HRX := Lib.hid (HRW.out _ HT.out)
        have hmc2 := HRX.out.hcap
        have hmx2 := HRX.out.hmax
        obtain ⟨gr, off, rfl⟩ := HRX.out.some (by omega)
        have hkL : k < L.length := by have := HM.out; omega
        obtain ⟨d0, d1, d2, d3, d4, d5, d6, d7⟩ := sameFr_cells HRX.out k hkL
        have HMF := Lib.hid (HLP.out _ (List.getElem_mem hkL))
        have hlI : (k : Int) < m := by omega
        generalize L[k] = f at *
        obtain ⟨w13, hw13⟩ : ∃ W, wr.alloc (.cells (fca f) 26) = W := ⟨_, rfl⟩
        have t13 : Touch wr w13 (fun _ => False) := hw13 ▸ (Touch.refl wr _).alloc _
        have g13 : w13.heap[wr.heap.size]? = some (.cells (fca f) 26 (0, 0)) := hw13 ▸ heap_alloc_new ..
        obtain ⟨KA, hKA⟩ : ∃ K, wr.heap.size = K := ⟨_, rfl⟩
        rw [hKA] at g13
        have HW13 := Lib.hid (And.intro hw13 hKA)
        have HT13 := Lib.hid (HT.out.trans t13 (fun _ _ h => h))
        have HG13 := Lib.hid g13
        obtain ⟨X, hX⟩ : ∃ X, getF s'.F f.t = X := ⟨_, rfl⟩
        obtain ⟨B, hB⟩ : ∃ B, hasF s'.F f.t = B := ⟨_, rfl⟩
        have HGT := Lib.hid (stget_any w13 b h9 s' (HX11.out _ HT13.out).2.2.2.2.2.m f.t (HOF.out f HMF.out))
        rw [hX, hB] at HGT
        have HXB : RowKit.Hid (¬ (FB = true ∧ f.t = r.t) → B = true ∧ X = f) := Lib.hid (fun hc => by
          have h1 := HAF.out f HMF.out (fun h e => hc ⟨by rw [← HFB.out]; exact h, e⟩)
          rw [hX, hB] at h1
          exact h1)
        obtain ⟨x0, x1, x2, x3, x4, x5, x6, x7⟩ := fcells_of g13
        simp only [fca, tcs] at HGT HW13
        clear t13 g13 hw13 hKA hX hB hkL
        go_upto_region 19 with (fail)
        rw [HW13.out.1, HW13.out.2]
        clear d0 d1 d2 d3 d4 d5 d6 d7
        go_upto_region 20 with (go_at_call 8; (with_reducible refine HGT.out.mono ?_); rintro e w14 ⟨rfl, t14⟩; have HT14 := Lib.hid t14; clear t14 x0 x1 x2 x3 x4 x5 x6 x7)
        obtain ⟨w15, hw15⟩ : ∃ W, w14.alloc (.cells (fca X) 26) = W := ⟨_, rfl⟩
        have t15 : Touch w14 w15 (fun _ => False) := hw15 ▸ (Touch.refl w14 _).alloc _
        have g15 : w15.heap[w14.heap.size]? = some (.cells (fca X) 26 (0, 0)) := hw15 ▸ heap_alloc_new ..
        obtain ⟨KB, hKB⟩ : ∃ K, w14.heap.size = K := ⟨_, rfl⟩
        rw [hKB] at g15
        have HW15 := Lib.hid (And.intro hw15 hKB)
        have HT15 := Lib.hid ((HT13.out.trans HT14.out (fun _ _ h => h)).trans t15 (fun _ _ h => h))
        have g13 := t15.keeps (HT14.out.keeps HG13.out (fun h => h)) (fun h => h)
        have HGX := Lib.hid g15
        simp only [fca] at HW15
        rw [HW15.out.1, HW15.out.2]
        obtain ⟨x0, x1, x2, x3, x4, x5, x6, x7⟩ := fcells_of g13
        obtain ⟨-, y1, y2, y3, y4, y5, -⟩ := rcells_of (HX11.out _ HT15.out).2.2.1
        clear t15 g15 hw15 hKB g13
        go_cut [115] (fun s115 wx => s115 = .bool false ∧ wx = w15)
        case first =>
          cases FB
          case false =>
            obtain ⟨rfl, rfl⟩ := HXB.out (fun h => by cases h.1)
            obtain ⟨z0, z1, z2, z3, z4, z5, z6, z7⟩ := fcells_of HGX.out
            go_wp2_with fail
            go_meet
            exact ⟨rfl, rfl⟩
          case true =>
            by_cases ht : f.t = r.t
            case pos =>
              rw [ht] at x0 x1 x2 x3 x4
              clear ht x5 x6 x7
              go_wp2_with fail
              go_meet
              exact ⟨rfl, rfl⟩
            case neg =>
              obtain ⟨rfl, rfl⟩ := HXB.out (fun h => ht h.2)
              obtain ⟨z0, z1, z2, z3, z4, z5, z6, z7⟩ := fcells_of HGX.out
              have hne : ¬ (X.t.src = r.t.src ∧ X.t.dst = r.t.dst ∧ X.t.proto = r.t.proto ∧ X.t.sport = r.t.sport ∧ X.t.dport = r.t.dport) := fun e => ht (by
                generalize X.t = u at *
                generalize r.t = v at *
                obtain ⟨a1, a2, a3, a4, a5⟩ := u
                obtain ⟨b1, b2, b3, b4, b5⟩ := v
                simp only at e
                obtain ⟨rfl, rfl, rfl, rfl, rfl⟩ := e
                rfl)
              clear ht
              go_wp2_with fail
              all_goals first
                | (go_meet; exact ⟨rfl, rfl⟩)
                | (exfalso; apply hne; simp_all)
        case rest =>
          obtain ⟨rfl, rfl⟩ := hcut
          clear x0 x1 x2 x3 x4 x5 x6 x7 y1 y2 y3 y4 y5
          go_wp2_with fail
          go_roundw
          · exact ⟨k + 1, by omega, by go_num, HT15.out⟩
          · simp only [RowKit.intOf]; omega
      case neg =>
      obtain rfl : m = k := by omega
      have q14 := HX11.out _ HT.out
      obtain ⟨-, -, u2, -⟩ := vcells_of q14.2.1
      obtain ⟨DL, hDL⟩ : ∃ L, (vwS s).D = L := ⟨_, rfl⟩
      obtain ⟨EL, hEL⟩ : ∃ L, (vwS s').D = L := ⟨_, rfl⟩
      obtain ⟨nD, hnD⟩ : ∃ n, DL.length = n := ⟨_, rfl⟩
      obtain ⟨nE, hnE⟩ : ∃ n, EL.length = n := ⟨_, rfl⟩
      have HND := Lib.hid hnD
      have HNE := Lib.hid hnE
      have HRD : RowKit.Hid (∀ W, Touch w11 W (fun _ => False) → RowS W a2 nD c2 2 (DL.map dcl)) := Lib.hid (fun W t => by have h1 := (HX11.out W t).2.2.2.1.d; rw [hDL, hnD] at h1; exact h1)
      have HRE : RowKit.Hid (∀ W, Touch w11 W (fun _ => False) → RowS W p2 nE q2 2 (EL.map dcl)) := Lib.hid (fun W t => by have h1 := (HX11.out W t).2.2.2.2.1.d; rw [hEL, hnE] at h1; exact h1)
      have HCE : RowKit.Hid (∀ W, Touch w11 W (fun _ => False) → W.cell? ⟨K9, 2, none⟩ = some (.slice p2 nE q2)) := Lib.hid (fun W t => by have h1 := (vcells_of (HX11.out W t).1).2.2.1; rw [hEL, hnE] at h1; exact h1)
      have HKD : RowKit.Hid (∀ d ∈ DL, keepB r d = true → inD14 EL d = true) := Lib.hid (fun d hd hk => inD14_mem (by
        rw [← hDL] at hd
        rw [← hEL]
        exact (srtD_perm s'.D).mem_iff.2 (HAD.out.1 d ((srtD_perm s.D).mem_iff.1 hd) hk)))
      have HCN : RowKit.Hid (cntB14 r DL nD ≤ nE ∧ nE ≤ cntB14 r DL nD + 1 ∧ nD ≤ 16 ∧ nE ≤ 16) := Lib.hid (by
        have h1 := cntB14_all r s.D
        have h2 : (srtD s.D).length = nD := by rw [← hnD, ← hDL]; rfl
        have h3 : srtD s.D = DL := hDL
        rw [h2, h3] at h1
        have h4 : s'.D.length = nE := by rw [← hnE, ← hEL]; exact (srtD_perm s'.D).length_eq.symm
        have h5 : s.D.length = nD := by rw [← h2]; exact (srtD_perm s.D).length_eq.symm
        have h6 := HAD.out.2
        have h7 := HDL.out
        rw [h4] at h6 h7
        rw [h5] at h7
        rw [h1]
        exact ⟨h6.1, h6.2, h7.1, h7.2⟩)
      rw [hDL, hnD] at u2
      have hIrr : ¬ (m : Int) < m := by omega
      clear q14 hDL hEL hnD hnE hk hlt
      go_upto_region 24 with (fail)
      clear hIrr
      go_wp2_with fail
      go_loopw [15, 120] (fun s15 s120 wr => ∃ k : Nat, k ≤ nD ∧ s120 = .int .i64 k ∧ s15 = .int .i64 (cntB14 r DL k : Nat) ∧ Touch w11 wr (fun _ => False)) (fun _ s120 _ => nD - (RowKit.intOf s120).toNat)
      case atStart => exact ⟨0, Nat.zero_le _, rfl, rfl, HT.out⟩
      case round =>
        obtain ⟨k, hk, rfl, rfl, ht⟩ := hrel
        have HTV := Lib.hid ht
        clear ht u2 HT
        by_cases hlt : k < nD
        case neg =>
          obtain rfl : nD = k := by omega
          have hce := HCE.out _ HTV.out
          have hcn := HCN.out
          generalize cntB14 r DL nD = cn at *
          have i1 : (cn : Int) ≤ nE := by omega
          have i2 : (nE : Int) ≤ (cn : Int) + 1 := by omega
          have i3 : (cn : Int) ≤ 64 := by omega
          have hIrr : ¬ (nD : Int) < nD := by omega
          clear hcn hk hlt
          go_wp2_with fail
          refine (awake14 _).mono ?_
          rintro e w12 ⟨rfl, t12⟩
          have HTZ := Lib.hid ((HX11.out _ (HTV.out.trans t12 (fun _ _ h => h))).2.2.2.2.2.t)
          clear t12
          go_wp2_with fail
          go_ret
          exact ⟨rfl, HT1.out.trans (HTC.out.trans HTZ.out (fun _ _ h => h)) (fun _ _ h => h)⟩
        case pos =>
        have HRX := Lib.hid (HRD.out _ HTV.out)
        have hmc2 := HRX.out.hcap
        have hmx2 := HRX.out.hmax
        obtain ⟨gr, off, rfl⟩ := HRX.out.some (by omega)
        have hkL : k < DL.length := by have := HND.out; omega
        obtain ⟨d0, d1⟩ := dr_cells HRX.out k hkL
        have HKK := Lib.hid (HKD.out _ (gd_mem DL k hkL))
        have hcs := cntB14_succ (r := r) hkL
        have hlI : (k : Int) < nD := by omega
        have hcl := cntB14_le r DL k
        have hcl2 : cntB14 r DL k ≤ 16 := by have := HCN.out; have := HND.out; omega
        generalize gd DL k = d at *
        obtain ⟨w16, hw16⟩ : ∃ W, wr.alloc (.cells #[.int .i64 d.b, .int .i64 d.u] 55) = W := ⟨_, rfl⟩
        have t16 : Touch wr w16 (fun _ => False) := hw16 ▸ (Touch.refl wr _).alloc _
        have g16 : w16.heap[wr.heap.size]? = some (.cells #[.int .i64 d.b, .int .i64 d.u] 55 (0, 0)) := hw16 ▸ heap_alloc_new ..
        obtain ⟨KA, hKA⟩ : ∃ K, wr.heap.size = K := ⟨_, rfl⟩
        rw [hKA] at g16
        have HW16 := Lib.hid (And.intro hw16 hKA)
        have HT16 := Lib.hid (HTV.out.trans t16 (fun _ _ h => h))
        have HG16 := Lib.hid g16
        have HCS := Lib.hid hcs
        obtain ⟨cn, hcn⟩ : ∃ cn, cntB14 r DL k = cn := ⟨_, rfl⟩
        rw [hcn] at HCS hcl2 ⊢
        have x0 : w16.cell? ⟨KA, 0, none⟩ = some (.int .i64 d.b) := cell_of_cells g16 0
        have x1 : w16.cell? ⟨KA, 1, none⟩ = some (.int .i64 d.u) := cell_of_cells g16 1
        have y11 := (rcells_of (HX11.out _ HT16.out).2.2.1).2.2.2.2.2.2.2.2.2.2.2.1
        have hcI : (cn : Int) ≤ 16 := by omega
        clear t16 g16 hw16 hKA hkL hcs hcl hcn hcl2
        go_upto_region 27 with (fail)
        rw [HW16.out.1, HW16.out.2]
        clear d0 d1
        obtain ⟨Z, hZ⟩ : ∃ Z, keepB r d = Z := ⟨_, rfl⟩
        rw [hZ] at HKK HCS
        have HZ := Lib.hid hZ
        go_cut [131] (fun s131 wx => s131 = .bool Z ∧ wx = w16)
        case first =>
          have hZ2 : (FB || !decide (d.b = r.be)) = Z := by rw [← hZ, ← HFB.out]; rfl
          have HZ2 := Lib.hid hZ2
          clear hZ hZ2
          cases FB
          case true =>
            go_wp2_with fail
            go_meet
            exact ⟨by rw [← HZ2.out]; rfl, rfl⟩
          case false =>
            by_cases hb : d.b = r.be
            case pos =>
              go_wp2_with fail
              go_meet
              exact ⟨by rw [← HZ2.out]; simp [hb], rfl⟩
            case neg =>
              go_wp2_with fail
              go_meet
              exact ⟨by rw [← HZ2.out]; simp [hb], rfl⟩
        case rest =>
        obtain ⟨rfl, rfl⟩ := hcut
        clear hZ x0 x1 y11
        cases Z
        case false =>
          have HX : RowKit.Hid (∃ k' : Nat, k' ≤ nD ∧ Value.int .i64 ((k : Int) + 1) = .int .i64 k' ∧ Value.int .i64 (cn : Nat) = .int .i64 (cntB14 r DL k' : Nat) ∧ Touch w11 wc (fun _ => False)) := Lib.hid ⟨k + 1, by omega, by go_num, by rw [HCS.out]; rfl, HT16.out⟩
          go_wp2_with fail
          go_roundw
          · exact HX.out
          · simp only [RowKit.intOf]; omega
        case true =>
        have hce := HCE.out _ HT16.out
        have HIN := Lib.hid (HKK.out rfl)
        go_wp2_with fail
        go_loopw [18, 137] (fun s18 s137 wr => ∃ j : Nat, j ≤ nE ∧ s137 = .int .i64 j ∧ s18 = .bool (inD14 (EL.take j) d) ∧ Touch wc wr (fun _ => False)) (fun _ s137 _ => nE - (RowKit.intOf s137).toNat)
        case atStart => exact ⟨0, Nat.zero_le _, rfl, rfl, Touch.refl _ _⟩
        case round =>
          obtain ⟨j, hj, rfl, rfl, ht⟩ := hrel
          have HTZ := Lib.hid ht
          clear ht hce
          by_cases hlj : j < nE
          case neg =>
            obtain rfl : nE = j := by omega
            have hta : EL.take nE = EL := List.take_of_length_le (by have := HNE.out; omega)
            rw [hta, HIN.out]
            have HX : RowKit.Hid (∃ k' : Nat, k' ≤ nD ∧ Value.int .i64 ((k : Int) + 1) = .int .i64 k' ∧ Value.int .i64 ((cn : Int) + 1) = .int .i64 (cntB14 r DL k' : Nat) ∧ Touch w11 wr (fun _ => False)) := Lib.hid ⟨k + 1, by omega, by go_num, by rw [HCS.out]; simp, HT16.out.trans HTZ.out (fun _ _ h => h)⟩
            have hIrr : ¬ (nE : Int) < nE := by omega
            clear hta hlj hj
            go_wp2_with fail
            go_roundw
            · exact HX.out
            · simp only [RowKit.intOf]; omega
          case pos =>
            have HRY := Lib.hid (HRE.out _ (HT16.out.trans HTZ.out (fun _ _ h => h)))
            have hmc3 := HRY.out.hcap
            have hmx3 := HRY.out.hmax
            obtain ⟨gs, of2, rfl⟩ := HRY.out.some (by omega)
            have hjL : j < EL.length := by have := HNE.out; omega
            obtain ⟨e0, e1⟩ := dr_cells HRY.out j hjL
            have HIS := Lib.hid (inD14_succ (d := d) hjL)
            have hjI : (j : Int) < nE := by omega
            generalize gd EL j = u at *
            obtain ⟨w17, hw17⟩ : ∃ W, wr.alloc (.cells #[.int .i64 u.b, .int .i64 u.u] 55) = W := ⟨_, rfl⟩
            have t17 : Touch wr w17 (fun _ => False) := hw17 ▸ (Touch.refl wr _).alloc _
            have g17 : w17.heap[wr.heap.size]? = some (.cells #[.int .i64 u.b, .int .i64 u.u] 55 (0, 0)) := hw17 ▸ heap_alloc_new ..
            obtain ⟨KC, hKC⟩ : ∃ K, wr.heap.size = K := ⟨_, rfl⟩
            rw [hKC] at g17
            have HW17 := Lib.hid (And.intro hw17 hKC)
            have HT17 := Lib.hid (HTZ.out.trans t17 (fun _ _ h => h))
            have g16 := HT17.out.keeps HG16.out (fun h => h)
            have x0 : w17.cell? ⟨KC, 0, none⟩ = some (.int .i64 u.b) := cell_of_cells g17 0
            have x1 : w17.cell? ⟨KC, 1, none⟩ = some (.int .i64 u.u) := cell_of_cells g17 1
            have z0 : w17.cell? ⟨KA, 0, none⟩ = some (.int .i64 d.b) := cell_of_cells g16 0
            have z1 : w17.cell? ⟨KA, 1, none⟩ = some (.int .i64 d.u) := cell_of_cells g16 1
            obtain ⟨Y, hY⟩ : ∃ Y, inD14 (EL.take j) d = Y := ⟨_, rfl⟩
            rw [hY] at HIS ⊢
            clear t17 g17 hw17 hKC g16 hjL hY
            go_upto_region 33 with (fail)
            rw [HW17.out.1, HW17.out.2]
            clear e0 e1
            have HEND : RowKit.Hid (∃ j' : Nat, j' ≤ nE ∧ Value.int .i64 ((j : Int) + 1) = .int .i64 j' ∧ Value.bool (Y || eqDB u d) = .bool (inD14 (EL.take j') d) ∧ Touch wc w17 (fun _ => False)) := Lib.hid ⟨j + 1, by omega, by go_num, by rw [HIS.out], HT17.out⟩
            cases Y
            case true =>
              go_wp2_with fail
              go_roundw
              · exact HEND.out
              · simp only [RowKit.intOf]; omega
            case false =>
              by_cases hb : u.b = d.b
              case neg =>
                have he : eqDB u d = false := decide_eq_false (fun h => hb h.1)
                rw [he] at HEND
                clear he
                go_wp2_with fail
                go_roundw
                · exact HEND.out
                · simp only [RowKit.intOf]; omega
              case pos =>
                by_cases hu : u.u = d.u
                case neg =>
                  have he : eqDB u d = false := decide_eq_false (fun h => hu h.2)
                  rw [he] at HEND
                  rw [hb] at x0
                  clear he hb
                  go_wp2_with fail
                  go_roundw
                  · exact HEND.out
                  · simp only [RowKit.intOf]; omega
                case pos =>
                  have he : eqDB u d = true := decide_eq_true ⟨hb, hu⟩
                  rw [he] at HEND
                  rw [hb] at x0
                  rw [hu] at x1
                  clear he hb hu
                  go_wp2_with fail
                  go_roundw
                  · exact HEND.out
                  · simp only [RowKit.intOf]; omega
theorem stateApart_holds : Rows.StateApartSaid := by
  refine stateApart.said fun H enc W base v0 v1 d0 d1 p0 p1 h0 h1 => ?_
  obtain ⟨a, c, l, rfl, hr, hok⟩ := h0.recsB
  obtain ⟨r, ra, rc, rfl, rok, hrr⟩ := h1.recD
  exact (stateApart_walk W a c l hr hok r ra rc rok hrr).mono fun e w' h => ⟨h.1, h.2.below (fun _ _ h => h.elim) (Nat.le_refl _)⟩
end Go.Proofs.Ytdhimlkndpiacaa
