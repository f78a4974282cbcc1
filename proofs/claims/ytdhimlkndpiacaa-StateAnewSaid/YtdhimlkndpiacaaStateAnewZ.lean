/- StateAnew answers true for any records: its records make the same state. -/
import Derived.Test.YtdhimlkndpiacaaStOfZ
import Derived.Test.YtdhimlkndpiacaaStCopyZ
import Derived.Test.YtdhimlkndpiacaaFrStateAnewZ
set_option linter.unusedVariables false
set_option linter.unusedSimpArgs false
namespace Go.Proofs.Ytdhimlkndpiacaa
open Go.RowKit

theorem enter_apply14 (a b : Value) (w : World) : (callFunc 10 #[a, b]).run Try.prog w = .ok (.enter 10 #[a, b]) w := by kernel_rfl
theorem enter_recs14 (a : Value) (w : World) : (callFunc 11 #[a]).run Try.prog w = .ok (.enter 11 #[a]) w := by kernel_rfl
theorem enter_len14 (a : Value) (w : World) : (callFunc 12 #[a]).run Try.prog w = .ok (.enter 12 #[a]) w := by kernel_rfl
theorem enter_awakeZ (w : World) : (callFunc 14 #[]).run Try.prog w = .ok (.enter 14 #[]) w := by kernel_rfl
set_option maxRecDepth 20000 in
set_option maxHeartbeats 16000000 in
theorem stateAnew_walk (w : World) (a : Option Addr) (c : Nat) (l : List RecB) (hr : RowRB w a l.length c l) (hok : ∀ x ∈ l, RecBOk w x) (a2 : Option Addr) (c2 : Nat) (l2 : List RecB) (hr2 : RowRB w a2 l2.length c2 l2) (hok2 : ∀ x ∈ l2, RecBOk w x) :
    Calls Try.prog 5 #[.slice a l.length c, .slice a2 l2.length c2] w fun e w' => e = .returned (.bool true) ∧ Touch w w' (fun _ => False) := by
  have HR := Lib.hid hr
  have HOK := Lib.hid hok
  have HR2 := Lib.hid hr2
  have HOK2 := Lib.hid hok2
  obtain ⟨n, hn⟩ : ∃ n, l.length = n := ⟨_, rfl⟩
  obtain ⟨n2, hn2⟩ : ∃ n, l2.length = n := ⟨_, rfl⟩
  have HN := Lib.hid hn
  have HN2 := Lib.hid hn2
  have HLI := Lib.hid (light_any w a l.length c l hr)
  have HLJ : RowKit.Hid (∀ W, Touch w W (fun _ => False) → Calls Try.prog 16 #[.slice a2 l2.length c2] W fun e w' => e = .returned (.bool (lightB l2)) ∧ Touch W w' (fun _ => False)) := Lib.hid (fun W t => light_any W a2 l2.length c2 l2 (RowS.still hr2 t))
  rw [hn] at HR HLI ⊢
  rw [hn2] at HR2 HLJ ⊢
  clear hr hok hr2 hok2 hn hn2
  go_enter Try.func5, Try.ntmps5
  by_cases hl : lightB l = true
  case neg =>
    have hl' : lightB l = false := by simpa using hl
    rw [hl'] at HLI
    clear hl hl'
    go_wp2_with fail
    (with_reducible refine HLI.out.mono ?_)
    rintro e W2 ⟨rfl, t2⟩
    have HT2 := Lib.hid t2
    clear t2
    go_wp2_with fail
    refine (awake14 W2).mono ?_
    rintro e w8 ⟨rfl, t8⟩
    have HT8 := Lib.hid (HT2.out.trans t8 (fun _ _ h => h))
    clear t8
    go_wp2_with fail
    go_ret
    exact ⟨rfl, HT8.out⟩
  case pos =>
  rw [hl] at HLI
  have HL := Lib.hid (lightB_iff.1 hl)
  clear hl
  by_cases hl2 : lightB l2 = true
  case neg =>
    have hl' : lightB l2 = false := by simpa using hl2
    rw [hl'] at HLJ
    clear hl2 hl'
    go_wp2_with fail
    (with_reducible refine HLI.out.mono ?_)
    rintro e W2 ⟨rfl, t2⟩
    have HT2 := Lib.hid t2
    clear t2
    go_wp2_with fail
    (with_reducible refine (HLJ.out _ HT2.out).mono ?_)
    rintro e W3 ⟨rfl, t3⟩
    have HT3 := Lib.hid (HT2.out.trans t3 (fun _ _ h => h))
    clear t3
    go_wp2_with fail
    refine (awake14 W3).mono ?_
    rintro e w8 ⟨rfl, t8⟩
    have HT8 := Lib.hid (HT3.out.trans t8 (fun _ _ h => h))
    clear t8
    go_wp2_with fail
    go_ret
    exact ⟨rfl, HT8.out⟩
  case pos =>
  rw [hl2] at HLJ
  have HL2 := Lib.hid (lightB_iff.1 hl2)
  clear hl2
  go_wp2_with fail
  (with_reducible refine HLI.out.mono ?_)
  rintro e W2 ⟨rfl, t2⟩
  have HT2 := Lib.hid t2
  clear t2
  go_wp2_with fail
  (with_reducible refine (HLJ.out _ HT2.out).mono ?_)
  rintro e wA ⟨rfl, t3⟩
  have HTA := Lib.hid (HT2.out.trans t3 (fun _ _ h => h))
  clear t3 HT2 HLI HLJ
  go_wp2_with fail
  refine (stnew_any wA).mono ?_
  rintro e w3 ⟨b, h0, rfl, n3⟩
  have HN3 := Lib.hid n3
  clear n3
  go_wp2_with fail
  go_loopw [31] (fun s31 wr => ∃ (k : Nat) (h : StH) (s : StS), k ≤ n ∧ s31 = .int .i64 k ∧ StN wA wr b h s ∧ ∀ q ∈ s.bs, BkOk q) (fun s31 _ => n - (RowKit.intOf s31).toNat)
  case atStart => exact ⟨0, h0, stZ, Nat.zero_le _, rfl, HN3.out, fun q hq => by cases hq⟩
  case round =>
    obtain ⟨k, h, s, hk, rfl, hq, hbs⟩ := hrel
    have HQ := Lib.hid hq
    have HBS := Lib.hid hbs
    clear hq hbs HN3
    by_cases hlt : k < n
    case pos =>
      have HRX := Lib.hid (RowS.still HR.out (HTA.out.trans HQ.out.t (fun _ _ h => h)))
      have hcap := HRX.out.hcap
      have hmax := HRX.out.hmax
      have hkL : k < l.length := by have := HN.out; omega
      have hlI : (k : Int) < n := by omega
      have HYO := Lib.hid (HOK.out _ (grb_mem l k hkL))
      have HYL := Lib.hid (HL.out.2 _ (grb_mem l k hkL))
      obtain ⟨gr, off, rfl⟩ := HRX.out.some (by omega)
      obtain ⟨d0, d1, d2, d3, d4, d5, d6, d7, d8, d9, d10, d11, d12, d13⟩ := recB_cells HRX.out k hkL
      obtain ⟨y, hy⟩ : ∃ y, grb l k = y := ⟨_, rfl⟩
      rw [hy] at d0 d1 d2 d3 d4 d5 d6 d7 d8 d9 d10 d11 d12 d13 HYO HYL
      obtain ⟨w6, hw6⟩ : ∃ W, wr.alloc (.cells (rcs y.r y.a y.c) 29) = W := ⟨_, rfl⟩
      have t6 : Touch wr w6 (fun _ => False) := hw6 ▸ (Touch.refl wr _).alloc _
      have g6 : w6.heap[wr.heap.size]? = some (.cells (rcs y.r y.a y.c) 29 (0, 0)) := hw6 ▸ heap_alloc_new ..
      obtain ⟨K7, hK7⟩ : ∃ K, wr.heap.size = K := ⟨_, rfl⟩
      rw [hK7] at g6
      have HW6 := Lib.hid (And.intro hw6 hK7)
      have HG6 := Lib.hid g6
      have HT6 := Lib.hid t6
      obtain ⟨y0, y1, y2, y3, y4, y5, y6, y7, y8, y9, y10, y11, y12, y13⟩ := rcells_of g6
      have HQ6 := Lib.hid (HQ.out.still t6)
      have HYR : RowKit.Hid (∀ W, Touch wA W (fun _ => False) → RowK W y.a y.r.bs.length y.c y.r.bs) := Lib.hid (fun W t => RowS.still HYO.out.2 (HTA.out.trans t (fun _ _ h => h)))
      have HAP := Lib.hid (stapply_any w6 b h s HQ6.out.m y.r y.a y.c (HYR.out _ HQ6.out.t) (by have := HYL.out; omega) HYO.out.1)
      have HF7 : RowKit.Hid (¬ footS b h K7) := Lib.hid (fun hf => by have := HQ.out.m.lt _ hf; omega)
      simp only [rcs] at HW6 HAP
      clear t6 g6 hw6 hK7 hkL hy
      go_upto_region 7 with (fail)
      rw [HW6.out.1, HW6.out.2]
      clear d0 d1 d2 d3 d4 d5 d6 d7 d8 d9 d10 d11 d12 d13
      by_cases hz : stE s y.r = 0
      case neg =>
        have hz' : (stE s y.r == 0) = false := by simpa using hz
        rw [stS_bad hz] at HAP
        clear hz
        go_wp2_with fail
        (with_reducible refine HAP.out.mono ?_)
        rintro e w7 ⟨rfl, s7⟩
        obtain ⟨h7, n7, -, -⟩ := HQ6.out.step s7
        have HX : RowKit.Hid (∃ (k' : Nat) (h : StH) (s : StS), k' ≤ n ∧ Value.int .i64 ((k : Int) + 1) = .int .i64 k' ∧ StN wA w7 b h s ∧ ∀ q ∈ s.bs, BkOk q) := Lib.hid ⟨k + 1, h7, s, by omega, by go_num, n7, HBS.out⟩
        clear s7 n7 y0 y1 y2 y3 y4 y5 y6 y7 y8 y9 y10 y11 y12 y13
        go_wp2_with fail
        go_roundw
        · exact HX.out
        · simp only [RowKit.intOf]; omega
      case pos =>
        have HB1 := Lib.hid (bsOk_step HBS.out HYO.out.1 (s := s))
        obtain ⟨tw1, tw2⟩ := st_twice HQ.out.m.ok hz
        rw [hz] at HAP
        obtain ⟨s1, hs1⟩ : ∃ s1, stS s y.r = s1 := ⟨_, rfl⟩
        rw [hs1] at tw1 tw2 HAP HB1
        have HTW := Lib.hid (And.intro tw1 tw2)
        clear hz tw1 tw2 hs1
        go_upto_region 9 with (go_at_call 10; (with_reducible refine HAP.out.mono ?_); rintro e w7 ⟨rfl, s7⟩; have HS7 := Lib.hid s7; clear s7 y0 y1 y2 y3 y4 y5 y6 y7 y8 y9 y10 y11 y12 y13)
        have h7n : RowKit.Hid (∃ h7, StN wA w7 b h7 s1 ∧ h7.dm = h.dm ∧ h7.fm = h.fm) := Lib.hid (by obtain ⟨h7, n7, e1, e2⟩ := HQ6.out.step HS7.out; exact ⟨h7, n7, e1, e2⟩)
        obtain ⟨h7, n7, e1, e2⟩ := h7n.out
        have HN7 := Lib.hid n7
        have hf7 : ¬ footS b h7 K7 := by unfold footS; rw [e1, e2]; exact HF7.out
        have HF77 := Lib.hid hf7
        have HG77 := Lib.hid (HS7.out.touch.keeps HG6.out HF7.out)
        have HV7 := Lib.hid (stvw_any w7 b h7 s1 n7.m)
        simp only [vcs] at HV7
        clear n7 e1 e2 hf7 h7n
        go_upto_region 10 with (go_at_call 9; (with_reducible refine HV7.out.mono ?_); rintro e w8 ⟨a5, c5, a6, c6, a7, c7, rfl, ⟨va, vn⟩, t8⟩; have HVA0 := Lib.hid va; have HVN := Lib.hid vn; have HT8 := Lib.hid t8; clear va vn t8)
        obtain ⟨w9, hw9⟩ : ∃ W, w8.alloc (.cells (vcs (vwS s1) a5 c5 a6 c6 a7 c7) 36) = W := ⟨_, rfl⟩
        have t9 : Touch w8 w9 (fun _ => False) := hw9 ▸ (Touch.refl w8 _).alloc _
        have g9 : w9.heap[w8.heap.size]? = some (.cells (vcs (vwS s1) a5 c5 a6 c6 a7 c7) 36 (0, 0)) := hw9 ▸ heap_alloc_new ..
        obtain ⟨K9, hK9⟩ : ∃ K, w8.heap.size = K := ⟨_, rfl⟩
        rw [hK9] at g9
        have HW9 := Lib.hid (And.intro hw9 hK9)
        have HN9A := Lib.hid ((HN7.out.still HT8.out).still t9)
        have HLT : RowKit.Hid (∀ q, footS b h7 q → q < w7.heap.size) := Lib.hid HN7.out.m.lt
        have HG7 : RowKit.Hid (∀ W, Touch w9 W (footS b h7) → W.heap[K7]? = some (.cells (rcs y.r y.a y.c) 29 (0, 0))) := Lib.hid (fun W t => t.keeps (t9.keeps (HT8.out.keeps HG77.out (fun h => h)) (fun h => h)) HF77.out)
        have HG9 : RowKit.Hid (∀ W, Touch w9 W (footS b h7) → W.heap[K9]? = some (.cells (vcs (vwS s1) a5 c5 a6 c6 a7 c7) 36 (0, 0))) := Lib.hid (fun W t => t.keeps g9 (fun hf => by have h1 := HLT.out _ hf; have h2 := HT8.out.size; omega))
        have HVA : RowKit.Hid (∀ W, Touch w9 W (footS b h7) → VwAt W (vwS s1) a5 c5 a6 c6 a7 c7) := Lib.hid (fun W t => (HVA0.out.still t9).touch HVN.out t HLT.out)
        have HN9D := Lib.hid (HN9A.out.still ((Touch.refl w9 (fun _ => False)).drew))
        have HAPD := Lib.hid (stapply_any w9.drew b h7 s1 HN9D.out.m y.r y.a y.c (HYR.out _ HN9D.out.t) (by have := HYL.out; omega) HYO.out.1)
        rw [HTW.out.1, HTW.out.2] at HAPD
        simp only [vcs] at HW9
        clear t9 g9 hw9 hK9
        rw [HW9.out.1, HW9.out.2]
        go_wp2_with fail
        have hS := (Touch.refl w9 (footS b h7)).drew
        refine wp_region_sched (fun w' => Touch w9 w' (footS b h7)) [(0, true), (1, true), (2, false), (3, true), (4, true), (5, true), (7, true), (6, false), (8, false), (9, true), (10, true)] (by kernel_rfl) (by kernel_rfl) rfl (by kernel_rfl) hS ?_
        (refine walkS_take (v := ?_) (some 42) rfl rfl (fun _ _ _ h => h) (by rfl) ?_ ?_; rotate_left; (focus (intro w' hw'; go_simp; (try with_reducible rfl))); (try simp only [Act.put, List.setIfInBounds_toArray, List.set_cons_zero, List.set_cons_succ]))
        (refine walkS_row (some 43) rfl rfl 29 (.tmp 7) rfl (K7) rfl _ _ _ _ (fun w' h => HG7.out _ h) Try.underlying29 rfl (infoRec14 _ _ _) (fun _ _ _ h => h) (by rfl) ?_; (try simp only [Act.put, List.setIfInBounds_toArray, List.set_cons_zero, List.set_cons_succ]))
        (refine walkS_call 44 _ _ _ _ (HAPD.out) rfl rfl rfl (by rfl) rfl (enter_apply14 _ _ _) ?_; rintro e w' ⟨rfl, s9⟩; obtain ⟨h9, n9, -, -⟩ := HN9D.out.step s9; have HN9 := Lib.hid n9; have hS := hS.trans s9.touch (fun _ _ h => h); clear s9 n9; refine ⟨_, rfl, hS, fun hS => ?_⟩; (try simp only [Act.put, List.setIfInBounds_toArray, List.set_cons_zero, List.set_cons_succ]))
        (refine walkS_take (v := ?_) (some 45) rfl rfl (fun _ _ _ h => h) (by rfl) ?_ ?_; rotate_left; (focus (intro w' hw'; go_simp; (try with_reducible rfl))); (try simp only [Act.put, List.setIfInBounds_toArray, List.set_cons_zero, List.set_cons_succ]))
        (refine walkS_take (v := ?_) (some 46) rfl rfl (fun _ _ _ h => h) (by rfl) ?_ ?_; rotate_left; (focus (intro w' hw'; go_simp; (try with_reducible rfl))); (try simp only [Act.put, List.setIfInBounds_toArray, List.set_cons_zero, List.set_cons_succ]))
        first | (refine walkS_skip (some 47) rfl rfl (by rfl) (fun _ _ _ h => h) hS ?_; (try simp only [Act.put, List.setIfInBounds_toArray, List.set_cons_zero, List.set_cons_succ])) | (refine walkS_take (v := ?_) (some 47) rfl rfl (fun _ _ _ h => h) (by rfl) ?_ ?_; rotate_left; (focus (intro w' hw'; go_simp; (try with_reducible rfl))); (try simp only [Act.put, List.setIfInBounds_toArray, List.set_cons_zero, List.set_cons_succ]))
        first | (refine walkS_skip (some 49) rfl rfl (by rfl) (fun _ _ _ h => h) hS ?_; (try simp only [Act.put, List.setIfInBounds_toArray, List.set_cons_zero, List.set_cons_succ])) | (refine walkS_row (some 49) rfl rfl 36 (.tmp 9) rfl (K9) rfl _ _ _ _ (fun w' h => HG9.out _ h) Try.underlying36 rfl (infoVF _ _ _ _ _ _ _) (fun _ _ _ h => h) (by rfl) ?_; (try simp only [Act.put, List.setIfInBounds_toArray, List.set_cons_zero, List.set_cons_succ]))
        first | (refine walkS_skip (some 48) rfl rfl (by rfl) (fun _ _ _ h => h) hS ?_; (try simp only [Act.put, List.setIfInBounds_toArray, List.set_cons_zero, List.set_cons_succ])) | (refine walkS_call 48 _ _ _ _ (stvw_any _ b h9 s1 HN9.out.m) rfl rfl rfl (by rfl) rfl (enter_viewF _ _) ?_; rintro e w' ⟨f1, g1, f2, g2, f3, g3, rfl, ⟨va, -⟩, t9⟩; have HN9 := Lib.hid (HN9.out.still t9); have HSM := Lib.hid (same14_any w' _ _ _ _ _ _ _ _ _ _ _ _ _ _ va (HVA.out _ (hS.trans t9 (fun _ _ h => h.elim)))); rw [same14_refl] at HSM; have hS := hS.trans t9 (fun _ _ h => h.elim); clear va t9; refine ⟨_, rfl, hS, fun hS => ?_⟩; (try simp only [Act.put, List.setIfInBounds_toArray, List.set_cons_zero, List.set_cons_succ]))
        first | (refine walkS_skip (some 50) rfl rfl (by rfl) (fun _ _ _ h => h) hS ?_; (try simp only [Act.put, List.setIfInBounds_toArray, List.set_cons_zero, List.set_cons_succ])) | (refine walkS_call 50 _ _ _ _ (HSM.out) rfl rfl rfl (by rfl) rfl (enter_sameF _ _ _) ?_; rintro e w' ⟨rfl, t⟩; have HN9 := Lib.hid (HN9.out.still t); have hS := hS.trans t (fun _ _ h => h.elim); clear t; refine ⟨_, rfl, hS, fun hS => ?_⟩; (try simp only [Act.put, List.setIfInBounds_toArray, List.set_cons_zero, List.set_cons_succ]))
        first | (refine walkS_skip (some 51) rfl rfl (by rfl) (fun _ _ _ h => h) hS ?_; (try simp only [Act.put, List.setIfInBounds_toArray, List.set_cons_zero, List.set_cons_succ])) | (refine walkS_take (v := ?_) (some 51) rfl rfl (fun _ _ _ h => h) (by rfl) ?_ ?_; rotate_left; (focus (intro w' hw'; go_simp; (try with_reducible rfl))); (try simp only [Act.put, List.setIfInBounds_toArray, List.set_cons_zero, List.set_cons_succ]))
        (refine walkS_take (v := ?_) (some 52) rfl rfl (fun _ _ _ h => h) (by rfl) ?_ ?_; rotate_left; (focus (intro w' hw'; go_simp; (try with_reducible rfl))); (try simp only [Act.put, List.setIfInBounds_toArray, List.set_cons_zero, List.set_cons_succ]))
        refine walkS_done ?_
        have HX : RowKit.Hid (∃ (k' : Nat) (h : StH) (s : StS), k' ≤ n ∧ Value.int .i64 ((k : Int) + 1) = .int .i64 k' ∧ StN wA _ b h s ∧ ∀ q ∈ s.bs, BkOk q) := Lib.hid ⟨k + 1, h9, s1, by omega, by go_num, HN9.out, HB1.out⟩
        clear hS
        go_wp2_with fail
        go_roundw
        · exact HX.out
        · simp only [RowKit.intOf]; omega
    case neg =>
      obtain rfl : n = k := by omega
      have hlI : ¬ (n : Int) < n := by omega
      obtain ⟨wB, hwB⟩ : ∃ W, W = wr := ⟨_, rfl⟩
      subst hwB
      have HTB := Lib.hid (HTA.out.trans HQ.out.t (fun _ _ h => h))
      clear hlt hk
      go_upto_region 13 with (fail)
      clear hlI
      go_wp2_with fail
      refine (stnew_any _).mono ?_
      rintro e w10 ⟨bt, ht0, rfl, n10⟩
      have HNT0 := Lib.hid n10
      have HSR := Lib.hid (strecs_any w10 b h s (HQ.out.still n10.t).m)
      clear n10
      go_wp2_with fail
      (with_reducible refine HSR.out.mono ?_)
      rintro e w11 ⟨b5, d5, ar, cr, rfl, o11, r11, f11, t11⟩
      obtain ⟨m, hm⟩ : ∃ m, 1 + s.D.length + s.F.length = m := ⟨_, rfl⟩
      obtain ⟨l5, hl5⟩ : ∃ l5, recsV (vwS s) b5 d5 = l5 := ⟨_, rfl⟩
      have hlen : l5.length = m := by
        rw [← hl5, ← hm, recsV_len]
        show 1 + (srtD s.D).length + (srtF s.F).length = _
        rw [(srtD_perm _).length_eq, (srtF_perm _).length_eq]
      obtain ⟨pz, pv⟩ := ofR_vw HQ.out.m.ok b5 d5
      rw [hl5] at o11 pz pv
      rw [hm] at o11
      rw [hm]
      have HLM := Lib.hid hlen
      have HFT : RowKit.Hid (Touch wB w10 (fun _ => False)) := Lib.hid HNT0.out.t
      have HRW : RowKit.Hid (∀ W, Touch w11 W (footS bt ht0) → RowRB W ar m cr l5) := Lib.hid (fun W t => (o11.row'.2.1).touch t (fun q hq => .inr (fun hs => by have h1 := (o11.row'.2.2 q hq).1; have h2 := HNT0.out.m.lt _ hs; omega)))
      have HY5 : RowKit.Hid (∀ W, Touch w11 W (footS bt ht0) → ∀ y ∈ l5, RowK W y.a y.r.bs.length y.c y.r.bs ∧ y.r.bs.length ≤ 100000) := Lib.hid (fun W t y hy => by
        refine recsV_bs (x := vwS s) (a := b5) (c := d5) (RowS.touch r11 t (fun q hq => .inr (fun hs => by have h1 := f11 q hq; have h2 := HNT0.out.m.lt _ hs; omega))) ?_ y (by rw [hl5]; exact hy)
        have h9 := ((gmay_iff _).1 HQ.out.m.ok.bs).1
        show s.bs.length ≤ 100000
        omega)
      have HO5 : RowKit.Hid (∀ y ∈ l5, RecOk y.r) := Lib.hid (by rw [← hl5]; exact recsV_ok HQ.out.m.ok HBS.out (HQ.out.m.fl.ok) b5 d5)
      obtain ⟨p, hp⟩ : ∃ p, ofR l5 stZ = p := ⟨_, rfl⟩
      rw [hp] at pz pv
      have HPZ := Lib.hid (And.intro pz pv)
      have HPP := Lib.hid hp
      have HNT := Lib.hid (HNT0.out.still t11)
      have HT11 := Lib.hid t11
      clear hlen pz pv hp hm hl5 o11 r11 f11 t11 HSR
      go_wp2_with fail
      go_loopw [58] (fun s58 wr => ∃ (k : Nat) (hk : StH) (st : StS), k ≤ m ∧ s58 = .int .i64 k ∧ StN wB wr bt hk st ∧ hk.dm = ht0.dm ∧ hk.fm = ht0.fm ∧ Touch w11 wr (footS bt ht0) ∧ ofR (l5.drop k) st = p) (fun s58 _ => m - (RowKit.intOf s58).toNat)
      case atStart => exact ⟨0, ht0, stZ, Nat.zero_le _, rfl, HNT.out, rfl, rfl, Touch.refl _ _, HPP.out⟩
      case round =>
        obtain ⟨k, ht2, st, hkn, rfl, hqt, e1, e2, htt, hot⟩ := hrel
        have HQT := Lib.hid hqt
        have HE := Lib.hid (And.intro e1 e2)
        have HTR := Lib.hid htt
        have HO := Lib.hid hot
        clear hqt e1 e2 htt hot HNT
        by_cases hlt : k < m
        case pos =>
          have HRX := Lib.hid (HRW.out _ HTR.out)
          have hcap := HRX.out.hcap
          have hmax := HRX.out.hmax
          have hkL : k < l5.length := by have := HLM.out; omega
          have hlI : (k : Int) < m := by omega
          have HYO := Lib.hid (HO5.out _ (grb_mem l5 k hkL))
          have HYL := Lib.hid (HY5.out _ HTR.out _ (grb_mem l5 k hkL))
          have HDR := Lib.hid (ofR_drop hkL st)
          rw [HO.out] at HDR
          obtain ⟨gr, off, rfl⟩ := HRX.out.some (by omega)
          obtain ⟨d0, d1, d2, d3, d4, d5, d6, d7, d8, d9, d10, d11, d12, d13⟩ := recB_cells HRX.out k hkL
          obtain ⟨y, hy⟩ : ∃ y, grb l5 k = y := ⟨_, rfl⟩
          rw [hy] at d0 d1 d2 d3 d4 d5 d6 d7 d8 d9 d10 d11 d12 d13 HYO HYL
          obtain ⟨w6, hw6⟩ : ∃ W, wr.alloc (.cells (rcs y.r y.a y.c) 29) = W := ⟨_, rfl⟩
          have t6 : Touch wr w6 (fun _ => False) := hw6 ▸ (Touch.refl wr _).alloc _
          have g6 : w6.heap[wr.heap.size]? = some (.cells (rcs y.r y.a y.c) 29 (0, 0)) := hw6 ▸ heap_alloc_new ..
          obtain ⟨K7, hK7⟩ : ∃ K, wr.heap.size = K := ⟨_, rfl⟩
          rw [hK7] at g6
          have HW6 := Lib.hid (And.intro hw6 hK7)
          have HG6 := Lib.hid g6
          have HT6 := Lib.hid t6
          obtain ⟨y0, y1, y2, y3, y4, y5, y6, y7, y8, y9, y10, y11, y12, y13⟩ := rcells_of g6
          rw [hy] at HDR
          have HQ6 := Lib.hid (HQT.out.still t6)
          have HZ0 : RowKit.Hid (stE st y.r = 0) := Lib.hid (by
            by_cases hz : stE st y.r = 0
            · exact hz
            · have h1 := HDR.out
              rw [if_neg hz] at h1
              have h2 := HPZ.out.1
              rw [h1] at h2
              exact h2)
          have HDR2 : RowKit.Hid (ofR (l5.drop (k + 1)) (stS st y.r) = p) := Lib.hid (by have h1 := HDR.out; rw [if_pos HZ0.out] at h1; exact h1.symm)
          have HAP := Lib.hid (stapply_any w6 bt ht2 st HQ6.out.m y.r y.a y.c (HYL.out.1.still t6) HYL.out.2 HYO.out)
          rw [HZ0.out] at HAP
          simp only [rcs] at HW6 HAP
          clear t6 g6 hw6 hK7 hkL hy
          go_upto_region 17 with (fail)
          rw [HW6.out.1, HW6.out.2]
          clear d0 d1 d2 d3 d4 d5 d6 d7 d8 d9 d10 d11 d12 d13
          go_wp2_with fail
          (with_reducible refine HAP.out.mono ?_)
          rintro e w7 ⟨rfl, s7⟩
          obtain ⟨h7, n7, f1, f2⟩ := HQ6.out.step s7
          have hfe : footS bt ht2 = footS bt ht0 := by funext q; unfold footS; rw [HE.out.1, HE.out.2]
          have t7 := s7.touch
          rw [hfe] at t7
          have HX' : RowKit.Hid (∃ (k' : Nat) (hk : StH) (st : StS), k' ≤ m ∧ Value.int .i64 ((k : Int) + 1) = .int .i64 k' ∧ StN wB w7 bt hk st ∧ hk.dm = ht0.dm ∧ hk.fm = ht0.fm ∧ Touch w11 w7 (footS bt ht0) ∧ ofR (l5.drop k') st = p) := Lib.hid ⟨k + 1, h7, stS st y.r, by omega, by go_num, n7, f1.trans HE.out.1, f2.trans HE.out.2, (HTR.out.trans HT6.out (fun _ _ h => h.elim)).trans t7 (fun _ _ h => h), HDR2.out⟩
          clear s7 n7 f1 f2 hfe t7 y0 y1 y2 y3 y4 y5 y6 y7 y8 y9 y10 y11 y12 y13
          go_wp2_with fail
          go_roundw
          · exact HX'.out
          · simp only [RowKit.intOf]; omega
        case neg =>
        obtain rfl : m = k := by omega
        have hlI : ¬ (m : Int) < m := by omega
        have hp : p = (0, st) := by
          have := HO.out
          rw [List.drop_of_length_le (by rw [HLM.out]; exact Nat.le_refl _)] at this
          exact this.symm
        subst hp
        have HVS : RowKit.Hid (vwS st = vwS s) := Lib.hid HPZ.out.2
        have HMS := Lib.hid (HQ.out.m.still HQT.out.t)
        have HV := Lib.hid (stvw_any wr b h s HMS.out)
        simp only [vcs] at HV
        clear hlt hkn
        go_upto_region 21 with (go_at_call 9; (with_reducible refine HV.out.mono ?_); rintro e w12 ⟨a5, c5, a6, c6, a7, c7, rfl, ⟨va, -⟩, t12⟩; have HVA := Lib.hid va; have HT12 := Lib.hid t12; clear va t12)
        clear hlI
        obtain ⟨w13, hw13⟩ : ∃ W, w12.alloc (.cells (vcs (vwS s) a5 c5 a6 c6 a7 c7) 36) = W := ⟨_, rfl⟩
        have t13 : Touch w12 w13 (fun _ => False) := hw13 ▸ (Touch.refl w12 _).alloc _
        have g13 : w13.heap[w12.heap.size]? = some (.cells (vcs (vwS s) a5 c5 a6 c6 a7 c7) 36 (0, 0)) := hw13 ▸ heap_alloc_new ..
        obtain ⟨K13, hK13⟩ : ∃ K, w12.heap.size = K := ⟨_, rfl⟩
        rw [hK13] at g13
        have HW13 := Lib.hid (And.intro hw13 hK13)
        have HG130 := Lib.hid g13
        have HVA13 := Lib.hid (HVA.out.still t13)
        have HT13 := Lib.hid (HT12.out.trans t13 (fun _ _ h => h))
        obtain ⟨q1, q2⟩ := ofR_vw HMS.out.ok a5 c5
        have hof := stof_any w13 (vwS s) a5 c5 a6 c6 a7 c7 HVA13.out (by have h1 := HMS.out.ok.dl; have h2 := (srtD_perm s.D).length_eq; show (srtD s.D).length ≤ 100000; omega) (by have h1 := HMS.out.ok.fl; have h2 := (srtF_perm s.F).length_eq; show (srtF s.F).length ≤ 100000; omega) (by have h9 := ((gmay_iff _).1 HMS.out.ok.bs).1; show s.bs.length ≤ 100000; omega) (recsV_ok HMS.out.ok HBS.out HMS.out.fl.ok a5 c5)
        obtain ⟨p2, hp2⟩ : ∃ p2, (ofR (recsV (vwS s) a5 c5) stZ).2 = p2 := ⟨_, rfl⟩
        have HSO : RowKit.Hid (same14 (vwS p2) (vwS s) = true) := Lib.hid (by rw [← hp2, q2]; exact same14_refl _)
        have HST : RowKit.Hid (same14 (vwS st) (vwS s) = true) := Lib.hid (by rw [HVS.out]; exact same14_refl _)
        have HOF : RowKit.Hid (Calls Try.prog 18 #[.agg (vcs (vwS s) a5 c5 a6 c6 a7 c7)] w13 fun e w' => ∃ bo ho, e = .returned (.tuple #[.pointer (some ⟨bo, 0, none⟩), .int .i64 0]) ∧ StN w13 w' bo ho p2) := Lib.hid (hof.mono fun e w' h => by
          have h1 := h.2.2 q1 (by rw [q2]; exact same14_refl _)
          rw [hp2] at h1
          exact h1)
        obtain ⟨v0, v1, v2, v3⟩ : w13.cell? ⟨K13, 0, none⟩ = some (.int .i64 (vwS s).gen) ∧ w13.cell? ⟨K13, 1, none⟩ = some (.slice a5 (vwS s).bs.length c5) ∧ w13.cell? ⟨K13, 2, none⟩ = some (.slice a6 (vwS s).D.length c6) ∧ w13.cell? ⟨K13, 3, none⟩ = some (.slice a7 (vwS s).F.length c7) := ⟨cell_of_cells g13 0, cell_of_cells g13 1, cell_of_cells g13 2, cell_of_cells g13 3⟩
        simp only [vcs] at HW13 HOF
        clear t13 g13 hw13 hK13 q1 q2 hof hp2
        rw [HW13.out.1, HW13.out.2]
        go_upto_region 22 with (go_at_call 18; (with_reducible refine HOF.out.mono ?_); rintro e w14 ⟨bo, ho, rfl, no⟩; have HNO := Lib.hid no; clear no v0 v1 v2 v3)
        have t14 := HT13.out.trans HNO.out.t (fun _ _ h => h)
        have HNT := Lib.hid (HQT.out.still t14)
        have HNS := Lib.hid ((HQ.out.still HQT.out.t).still t14)
        have HVX : RowKit.Hid (∀ W, Touch w14 W (fun _ => False) → VwAt W (vwS s) a5 c5 a6 c6 a7 c7) := Lib.hid (fun W t => HVA13.out.still (HNO.out.t.trans t (fun _ _ h => h)))
        have HG13 : RowKit.Hid (∀ W, Touch w14 W (fun _ => False) → W.heap[K13]? = some (.cells (vcs (vwS s) a5 c5 a6 c6 a7 c7) 36 (0, 0))) := Lib.hid (fun W t => t.keeps (HNO.out.t.keeps HG130.out (fun h => h)) (fun h => h))
        have HLN : RowKit.Hid (∀ W, Touch w14 W (fun _ => False) → Calls Try.prog 12 #[.pointer (some ⟨b, 0, none⟩)] W fun e w' => e = .returned (.int .i64 ((1 + s.D.length + s.F.length : Nat) : Int)) ∧ Touch W w' (fun _ => False)) := Lib.hid (fun W t => stlen_any W b h s (HNS.out.still t).m)
        clear t14
        go_wp2_with fail
        have hS := (Touch.refl w14 (fun _ => False)).drew
        refine wp_region_sched (fun w' => Touch w14 w' (fun _ => False)) [(0, true), (1, true), (2, true), (3, true), (4, true), (5, true), (6, true), (7, true), (9, true), (8, false), (10, false), (11, true), (12, true), (13, true), (14, true), (16, true), (15, false), (17, false), (18, true), (19, true), (20, true), (21, true), (24, true), (22, false), (23, true), (25, false), (26, true), (27, true)] (by kernel_rfl) (by kernel_rfl) rfl (by kernel_rfl) hS ?_
        (refine walkS_take (v := ?_) (some 74) rfl rfl (fun _ _ _ h => h) (by rfl) ?_ ?_; rotate_left; (focus (intro w' hw'; go_simp; (try with_reducible rfl))); (try simp only [Act.put, List.setIfInBounds_toArray, List.set_cons_zero, List.set_cons_succ]))
        (refine walkS_take (v := ?_) (some 75) rfl rfl (fun _ _ _ h => h) (by rfl) ?_ ?_; rotate_left; (focus (intro w' hw'; go_simp; (try with_reducible rfl))); (try simp only [Act.put, List.setIfInBounds_toArray, List.set_cons_zero, List.set_cons_succ]))
        (refine walkS_take (v := ?_) (some 76) rfl rfl (fun _ _ _ h => h) (by rfl) ?_ ?_; rotate_left; (focus (intro w' hw'; go_simp; (try with_reducible rfl))); (try simp only [Act.put, List.setIfInBounds_toArray, List.set_cons_zero, List.set_cons_succ]))
        first | (refine walkS_skip (some 77) rfl rfl (by rfl) (fun _ _ _ h => h) hS ?_; (try simp only [Act.put, List.setIfInBounds_toArray, List.set_cons_zero, List.set_cons_succ])) | (refine walkS_take (v := ?_) (some 77) rfl rfl (fun _ _ _ h => h) (by rfl) ?_ ?_; rotate_left; (focus (intro w' hw'; go_simp; (try with_reducible rfl))); (try simp only [Act.put, List.setIfInBounds_toArray, List.set_cons_zero, List.set_cons_succ]))
        first | (refine walkS_skip (some 78) rfl rfl (by rfl) (fun _ _ _ h => h) hS ?_; (try simp only [Act.put, List.setIfInBounds_toArray, List.set_cons_zero, List.set_cons_succ])) | (refine walkS_take (v := ?_) (some 78) rfl rfl (fun _ _ _ h => h) (by rfl) ?_ ?_; rotate_left; (focus (intro w' hw'; go_simp; (try with_reducible rfl))); (try simp only [Act.put, List.setIfInBounds_toArray, List.set_cons_zero, List.set_cons_succ]))
        (refine walkS_take (v := ?_) (some 79) rfl rfl (fun _ _ _ h => h) (by rfl) ?_ ?_; rotate_left; (focus (intro w' hw'; go_simp; (try with_reducible rfl))); (try simp only [Act.put, List.setIfInBounds_toArray, List.set_cons_zero, List.set_cons_succ]))
        (refine walkS_take (v := ?_) (some 80) rfl rfl (fun _ _ _ h => h) (by rfl) ?_ ?_; rotate_left; (focus (intro w' hw'; go_simp; (try with_reducible rfl))); (try simp only [Act.put, List.setIfInBounds_toArray, List.set_cons_zero, List.set_cons_succ]))
        first | (refine walkS_skip (some 81) rfl rfl (by rfl) (fun _ _ _ h => h) hS ?_; (try simp only [Act.put, List.setIfInBounds_toArray, List.set_cons_zero, List.set_cons_succ])) | (refine walkS_take (v := ?_) (some 81) rfl rfl (fun _ _ _ h => h) (by rfl) ?_ ?_; rotate_left; (focus (intro w' hw'; go_simp; (try with_reducible rfl))); (try simp only [Act.put, List.setIfInBounds_toArray, List.set_cons_zero, List.set_cons_succ]))
        first | (refine walkS_skip (some 83) rfl rfl (by rfl) (fun _ _ _ h => h) hS ?_; (try simp only [Act.put, List.setIfInBounds_toArray, List.set_cons_zero, List.set_cons_succ])) | (refine walkS_row (some 83) rfl rfl 36 (.tmp 13) rfl (K13) rfl _ _ _ _ (fun w' h => HG13.out _ h) Try.underlying36 rfl (infoVF _ _ _ _ _ _ _) (fun _ _ _ h => h) (by rfl) ?_; (try simp only [Act.put, List.setIfInBounds_toArray, List.set_cons_zero, List.set_cons_succ]))
        first | (refine walkS_skip (some 82) rfl rfl (by rfl) (fun _ _ _ h => h) hS ?_; (try simp only [Act.put, List.setIfInBounds_toArray, List.set_cons_zero, List.set_cons_succ])) | (refine walkS_call 82 _ _ _ _ (stvw_any _ bt ht2 st (HNT.out.m.still hS)) rfl rfl rfl (by rfl) rfl (enter_viewF _ _) ?_; rintro e w' ⟨f1, g1, f2, g2, f3, g3, rfl, ⟨va, -⟩, t9⟩; have HSM := Lib.hid (same14_any w' _ _ _ _ _ _ _ _ _ _ _ _ _ _ va (HVX.out _ (hS.trans t9 (fun _ _ h => h)))); rw [HST.out] at HSM; have hS := hS.trans t9 (fun _ _ h => h); clear va t9; refine ⟨_, rfl, hS, fun hS => ?_⟩; (try simp only [Act.put, List.setIfInBounds_toArray, List.set_cons_zero, List.set_cons_succ]))
        first | (refine walkS_skip (some 84) rfl rfl (by rfl) (fun _ _ _ h => h) hS ?_; (try simp only [Act.put, List.setIfInBounds_toArray, List.set_cons_zero, List.set_cons_succ])) | (refine walkS_call 84 _ _ _ _ (HSM.out) rfl rfl rfl (by rfl) rfl (enter_sameF _ _ _) ?_; rintro e w' ⟨rfl, t⟩; have hS := hS.trans t (fun _ _ h => h); clear t; refine ⟨_, rfl, hS, fun hS => ?_⟩; (try simp only [Act.put, List.setIfInBounds_toArray, List.set_cons_zero, List.set_cons_succ]))
        first | (refine walkS_skip (some 85) rfl rfl (by rfl) (fun _ _ _ h => h) hS ?_; (try simp only [Act.put, List.setIfInBounds_toArray, List.set_cons_zero, List.set_cons_succ])) | (refine walkS_take (v := ?_) (some 85) rfl rfl (fun _ _ _ h => h) (by rfl) ?_ ?_; rotate_left; (focus (intro w' hw'; go_simp; (try with_reducible rfl))); (try simp only [Act.put, List.setIfInBounds_toArray, List.set_cons_zero, List.set_cons_succ]))
        (refine walkS_take (v := ?_) (some 86) rfl rfl (fun _ _ _ h => h) (by rfl) ?_ ?_; rotate_left; (focus (intro w' hw'; go_simp; (try with_reducible rfl))); (try simp only [Act.put, List.setIfInBounds_toArray, List.set_cons_zero, List.set_cons_succ]))
        (refine walkS_take (v := ?_) (some 87) rfl rfl (fun _ _ _ h => h) (by rfl) ?_ ?_; rotate_left; (focus (intro w' hw'; go_simp; (try with_reducible rfl))); (try simp only [Act.put, List.setIfInBounds_toArray, List.set_cons_zero, List.set_cons_succ]))
        first | (refine walkS_skip (some 88) rfl rfl (by rfl) (fun _ _ _ h => h) hS ?_; (try simp only [Act.put, List.setIfInBounds_toArray, List.set_cons_zero, List.set_cons_succ])) | (refine walkS_take (v := ?_) (some 88) rfl rfl (fun _ _ _ h => h) (by rfl) ?_ ?_; rotate_left; (focus (intro w' hw'; go_simp; (try with_reducible rfl))); (try simp only [Act.put, List.setIfInBounds_toArray, List.set_cons_zero, List.set_cons_succ]))
        first | (refine walkS_skip (some 90) rfl rfl (by rfl) (fun _ _ _ h => h) hS ?_; (try simp only [Act.put, List.setIfInBounds_toArray, List.set_cons_zero, List.set_cons_succ])) | (refine walkS_row (some 90) rfl rfl 36 (.tmp 13) rfl (K13) rfl _ _ _ _ (fun w' h => HG13.out _ h) Try.underlying36 rfl (infoVF _ _ _ _ _ _ _) (fun _ _ _ h => h) (by rfl) ?_; (try simp only [Act.put, List.setIfInBounds_toArray, List.set_cons_zero, List.set_cons_succ]))
        first | (refine walkS_skip (some 89) rfl rfl (by rfl) (fun _ _ _ h => h) hS ?_; (try simp only [Act.put, List.setIfInBounds_toArray, List.set_cons_zero, List.set_cons_succ])) | (refine walkS_call 89 _ _ _ _ (stvw_any _ bo ho p2 (HNO.out.m.still hS)) rfl rfl rfl (by rfl) rfl (enter_viewF _ _) ?_; rintro e w' ⟨f1, g1, f2, g2, f3, g3, rfl, ⟨va, -⟩, t9⟩; have HSM := Lib.hid (same14_any w' _ _ _ _ _ _ _ _ _ _ _ _ _ _ va (HVX.out _ (hS.trans t9 (fun _ _ h => h)))); rw [HSO.out] at HSM; have hS := hS.trans t9 (fun _ _ h => h); clear va t9; refine ⟨_, rfl, hS, fun hS => ?_⟩; (try simp only [Act.put, List.setIfInBounds_toArray, List.set_cons_zero, List.set_cons_succ]))
        first | (refine walkS_skip (some 91) rfl rfl (by rfl) (fun _ _ _ h => h) hS ?_; (try simp only [Act.put, List.setIfInBounds_toArray, List.set_cons_zero, List.set_cons_succ])) | (refine walkS_call 91 _ _ _ _ (HSM.out) rfl rfl rfl (by rfl) rfl (enter_sameF _ _ _) ?_; rintro e w' ⟨rfl, t⟩; have hS := hS.trans t (fun _ _ h => h); clear t; refine ⟨_, rfl, hS, fun hS => ?_⟩; (try simp only [Act.put, List.setIfInBounds_toArray, List.set_cons_zero, List.set_cons_succ]))
        first | (refine walkS_skip (some 92) rfl rfl (by rfl) (fun _ _ _ h => h) hS ?_; (try simp only [Act.put, List.setIfInBounds_toArray, List.set_cons_zero, List.set_cons_succ])) | (refine walkS_take (v := ?_) (some 92) rfl rfl (fun _ _ _ h => h) (by rfl) ?_ ?_; rotate_left; (focus (intro w' hw'; go_simp; (try with_reducible rfl))); (try simp only [Act.put, List.setIfInBounds_toArray, List.set_cons_zero, List.set_cons_succ]))
        (refine walkS_take (v := ?_) (some 93) rfl rfl (fun _ _ _ h => h) (by rfl) ?_ ?_; rotate_left; (focus (intro w' hw'; go_simp; (try with_reducible rfl))); (try simp only [Act.put, List.setIfInBounds_toArray, List.set_cons_zero, List.set_cons_succ]))
        (refine walkS_take (v := ?_) (some 94) rfl rfl (fun _ _ _ h => h) (by rfl) ?_ ?_; rotate_left; (focus (intro w' hw'; go_simp; (try with_reducible rfl))); (try simp only [Act.put, List.setIfInBounds_toArray, List.set_cons_zero, List.set_cons_succ]))
        first | (refine walkS_skip (some 95) rfl rfl (by rfl) (fun _ _ _ h => h) hS ?_; (try simp only [Act.put, List.setIfInBounds_toArray, List.set_cons_zero, List.set_cons_succ])) | (refine walkS_take (v := ?_) (some 95) rfl rfl (fun _ _ _ h => h) (by rfl) ?_ ?_; rotate_left; (focus (intro w' hw'; go_simp; (try with_reducible rfl))); (try simp only [Act.put, List.setIfInBounds_toArray, List.set_cons_zero, List.set_cons_succ]))
        first | (refine walkS_skip (some 98) rfl rfl (by rfl) (fun _ _ _ h => h) hS ?_; (try simp only [Act.put, List.setIfInBounds_toArray, List.set_cons_zero, List.set_cons_succ])) | (refine walkS_take (v := ?_) (some 98) rfl rfl (fun _ _ _ h => h) (by rfl) ?_ ?_; rotate_left; (focus (intro w' hw'; go_simp; (try with_reducible rfl))); (try simp only [Act.put, List.setIfInBounds_toArray, List.set_cons_zero, List.set_cons_succ]))
        first | (refine walkS_skip (some 96) rfl rfl (by rfl) (fun _ _ _ h => h) hS ?_; (try simp only [Act.put, List.setIfInBounds_toArray, List.set_cons_zero, List.set_cons_succ])) | (refine walkS_call 96 _ _ _ _ (strecs_any _ b h s (HNS.out.m.still hS)) rfl rfl rfl (by rfl) rfl (enter_recs14 _ _) ?_; rintro e w' ⟨z1, z2, z3, z4, rfl, -, -, -, t9⟩; have hS := hS.trans t9 (fun _ _ h => h); clear t9; refine ⟨_, rfl, hS, fun hS => ?_⟩; (try simp only [Act.put, List.setIfInBounds_toArray, List.set_cons_zero, List.set_cons_succ]))
        first | (refine walkS_skip (some 97) rfl rfl (by rfl) (fun _ _ _ h => h) hS ?_; (try simp only [Act.put, List.setIfInBounds_toArray, List.set_cons_zero, List.set_cons_succ])) | (refine walkS_take (v := ?_) (some 97) rfl rfl (fun _ _ _ h => h) (by rfl) ?_ ?_; rotate_left; (focus (intro w' hw'; go_simp; (try with_reducible rfl))); (try simp only [Act.put, List.setIfInBounds_toArray, List.set_cons_zero, List.set_cons_succ]))
        first | (refine walkS_skip (some 99) rfl rfl (by rfl) (fun _ _ _ h => h) hS ?_; (try simp only [Act.put, List.setIfInBounds_toArray, List.set_cons_zero, List.set_cons_succ])) | (refine walkS_call 99 _ _ _ _ (HLN.out _ hS) rfl rfl rfl (by rfl) rfl (enter_len14 _ _) ?_; rintro e w' ⟨rfl, t⟩; have hS := hS.trans t (fun _ _ h => h); clear t; refine ⟨_, rfl, hS, fun hS => ?_⟩; (try simp only [Act.put, List.setIfInBounds_toArray, List.set_cons_zero, List.set_cons_succ]))
        first | (refine walkS_skip (some 100) rfl rfl (by rfl) (fun _ _ _ h => h) hS ?_; (try simp only [Act.put, List.setIfInBounds_toArray, List.set_cons_zero, List.set_cons_succ])) | (refine walkS_take (v := ?_) (some 100) rfl rfl (fun _ _ _ h => h) (by rfl) ?_ ?_; rotate_left; (focus (intro w' hw'; go_simp; (try with_reducible rfl))); (try simp only [Act.put, List.setIfInBounds_toArray, List.set_cons_zero, List.set_cons_succ]))
        (refine walkS_take (v := ?_) (some 101) rfl rfl (fun _ _ _ h => h) (by rfl) ?_ ?_; rotate_left; (focus (intro w' hw'; go_simp; (try with_reducible rfl))); (try simp only [Act.put, List.setIfInBounds_toArray, List.set_cons_zero, List.set_cons_succ]))
        refine walkS_done ?_
        obtain ⟨w15, hw15⟩ : ∃ W, W = w' := ⟨_, rfl⟩
        rw [← hw15] at hS ⊢
        have HN15 := Lib.hid (HNS.out.still hS)
        have HS15 := Lib.hid hS
        have HCP := Lib.hid (stcopy_any w15 b h s HN15.out.m)
        clear hS hw15
        go_upto_region 25 with (go_at_call 13; (with_reducible refine HCP.out.mono ?_); rintro e w16 ⟨bc, hc0, rfl, nc⟩; have HNC := Lib.hid nc; clear nc)
        have HT15 := Lib.hid (HTA.out.trans HN15.out.t (fun _ _ h => h))
        go_wp2_with fail
        go_loopw [108] (fun s108 wr => ∃ (k : Nat) (hc : StH) (sc : StS), k ≤ n2 ∧ s108 = .int .i64 k ∧ StN w15 wr bc hc sc) (fun s108 _ => n2 - (RowKit.intOf s108).toNat)
        case atStart => exact ⟨0, hc0, s, Nat.zero_le _, rfl, HNC.out⟩
        case round =>
          obtain ⟨k, hc, sc, hk, rfl, hqc⟩ := hrel
          have HQC := Lib.hid hqc
          clear hqc HNC
          by_cases hlt : k < n2
          case pos =>
            have HRX := Lib.hid (RowS.still HR2.out (HT15.out.trans HQC.out.t (fun _ _ h => h)))
            have hcap := HRX.out.hcap
            have hmax := HRX.out.hmax
            have hkL : k < l2.length := by have := HN2.out; omega
            have hlI : (k : Int) < n2 := by omega
            have HYO := Lib.hid (HOK2.out _ (grb_mem l2 k hkL))
            have HYL := Lib.hid (HL2.out.2 _ (grb_mem l2 k hkL))
            obtain ⟨gr, off, rfl⟩ := HRX.out.some (by omega)
            obtain ⟨d0, d1, d2, d3, d4, d5, d6, d7, d8, d9, d10, d11, d12, d13⟩ := recB_cells HRX.out k hkL
            obtain ⟨y, hy⟩ : ∃ y, grb l2 k = y := ⟨_, rfl⟩
            rw [hy] at d0 d1 d2 d3 d4 d5 d6 d7 d8 d9 d10 d11 d12 d13 HYO HYL
            obtain ⟨w6, hw6⟩ : ∃ W, wr.alloc (.cells (rcs y.r y.a y.c) 29) = W := ⟨_, rfl⟩
            have t6 : Touch wr w6 (fun _ => False) := hw6 ▸ (Touch.refl wr _).alloc _
            have g6 : w6.heap[wr.heap.size]? = some (.cells (rcs y.r y.a y.c) 29 (0, 0)) := hw6 ▸ heap_alloc_new ..
            obtain ⟨K7, hK7⟩ : ∃ K, wr.heap.size = K := ⟨_, rfl⟩
            rw [hK7] at g6
            have HW6 := Lib.hid (And.intro hw6 hK7)
            have HG6 := Lib.hid g6
            have HT6 := Lib.hid t6
            obtain ⟨y0, y1, y2, y3, y4, y5, y6, y7, y8, y9, y10, y11, y12, y13⟩ := rcells_of g6
            have HQ6 := Lib.hid (HQC.out.still t6)
            have HAP := Lib.hid (stapply_any w6 bc hc sc HQ6.out.m y.r y.a y.c (RowS.still HYO.out.2 (HT15.out.trans HQ6.out.t (fun _ _ h => h))) (by have := HYL.out; omega) HYO.out.1)
            simp only [rcs] at HW6 HAP
            clear t6 g6 hw6 hK7 hkL hy
            go_upto_region 30 with (fail)
            rw [HW6.out.1, HW6.out.2]
            clear d0 d1 d2 d3 d4 d5 d6 d7 d8 d9 d10 d11 d12 d13
            go_wp2_with fail
            (with_reducible refine HAP.out.mono ?_)
            rintro e w7 ⟨rfl, s7⟩
            obtain ⟨h7, n7, -, -⟩ := HQ6.out.step s7
            have HX' : RowKit.Hid (∃ (k' : Nat) (hc : StH) (sc : StS), k' ≤ n2 ∧ Value.int .i64 ((k : Int) + 1) = .int .i64 k' ∧ StN w15 w7 bc hc sc) := Lib.hid ⟨k + 1, h7, stS sc y.r, by omega, by go_num, n7⟩
            clear s7 n7 y0 y1 y2 y3 y4 y5 y6 y7 y8 y9 y10 y11 y12 y13
            go_wp2_with fail
            go_roundw
            · exact HX'.out
            · simp only [RowKit.intOf]; omega
          case neg =>
          obtain rfl : n2 = k := by omega
          have hlI : ¬ (n2 : Int) < n2 := by omega
          have HMZ := Lib.hid (HN15.out.m.still HQC.out.t)
          have HTZ : RowKit.Hid (Touch w14 wr (fun _ => False)) := Lib.hid (HS15.out.trans HQC.out.t (fun _ _ h => h))
          have HVXZ : RowKit.Hid (∀ W, Touch wr W (fun _ => False) → VwAt W (vwS s) a5 c5 a6 c6 a7 c7) := Lib.hid (fun W t => HVX.out _ (HTZ.out.trans t (fun _ _ h => h)))
          have HG13Z : RowKit.Hid (∀ W, Touch wr W (fun _ => False) → W.heap[K13]? = some (.cells (vcs (vwS s) a5 c5 a6 c6 a7 c7) 36 (0, 0))) := Lib.hid (fun W t => HG13.out _ (HTZ.out.trans t (fun _ _ h => h)))
          clear hlt hk
          go_upto_region 32 with (fail)
          clear hlI
          go_wp2_with fail
          have hS := (Touch.refl wr (fun _ => False)).drew
          refine wp_region_sched (fun w' => Touch wr w' (fun _ => False)) [(0, true), (2, true), (1, false), (3, false), (4, true), (5, false), (6, true), (7, true)] (by kernel_rfl) (by kernel_rfl) rfl (by kernel_rfl) hS ?_
          (refine walkS_take (v := ?_) (some 116) rfl rfl (fun _ _ _ h => h) (by rfl) ?_ ?_; rotate_left; (focus (intro w' hw'; go_simp; (try with_reducible rfl))); (try simp only [Act.put, List.setIfInBounds_toArray, List.set_cons_zero, List.set_cons_succ]))
          (refine walkS_row (some 118) rfl rfl 36 (.tmp 13) rfl (K13) rfl _ _ _ _ (fun w' h => HG13Z.out _ h) Try.underlying36 rfl (infoVF _ _ _ _ _ _ _) (fun _ _ _ h => h) (by rfl) ?_; (try simp only [Act.put, List.setIfInBounds_toArray, List.set_cons_zero, List.set_cons_succ]))
          (refine walkS_call 117 _ _ _ _ (stvw_any _ b h s (HMZ.out.still hS)) rfl rfl rfl (by rfl) rfl (enter_viewF _ _) ?_; rintro e w' ⟨f1, g1, f2, g2, f3, g3, rfl, ⟨va, -⟩, t9⟩; have HSM := Lib.hid (same14_any w' _ _ _ _ _ _ _ _ _ _ _ _ _ _ va (HVXZ.out _ (hS.trans t9 (fun _ _ h => h)))); rw [same14_refl] at HSM; have hS := hS.trans t9 (fun _ _ h => h); clear va t9; refine ⟨_, rfl, hS, fun hS => ?_⟩; (try simp only [Act.put, List.setIfInBounds_toArray, List.set_cons_zero, List.set_cons_succ]))
          (refine walkS_call 119 _ _ _ _ (HSM.out) rfl rfl rfl (by rfl) rfl (enter_sameF _ _ _) ?_; rintro e w' ⟨rfl, t⟩; have hS := hS.trans t (fun _ _ h => h); clear t; refine ⟨_, rfl, hS, fun hS => ?_⟩; (try simp only [Act.put, List.setIfInBounds_toArray, List.set_cons_zero, List.set_cons_succ]))
          (refine walkS_take (v := ?_) (some 120) rfl rfl (fun _ _ _ h => h) (by rfl) ?_ ?_; rotate_left; (focus (intro w' hw'; go_simp; (try with_reducible rfl))); (try simp only [Act.put, List.setIfInBounds_toArray, List.set_cons_zero, List.set_cons_succ]))
          first | (refine walkS_skip (some 121) rfl rfl (by rfl) (fun _ _ _ h => h) hS ?_; (try simp only [Act.put, List.setIfInBounds_toArray, List.set_cons_zero, List.set_cons_succ])) | (refine walkS_call 121 _ _ _ _ (awake14 _) rfl rfl rfl (by rfl) rfl (enter_awakeZ _) ?_; rintro e w' ⟨rfl, t⟩; have hS := hS.trans t (fun _ _ h => h); clear t; refine ⟨_, rfl, hS, fun hS => ?_⟩; (try simp only [Act.put, List.setIfInBounds_toArray, List.set_cons_zero, List.set_cons_succ]))
          (refine walkS_take (v := ?_) (some 122) rfl rfl (fun _ _ _ h => h) (by rfl) ?_ ?_; rotate_left; (focus (intro w' hw'; go_simp; (try with_reducible rfl))); (try simp only [Act.put, List.setIfInBounds_toArray, List.set_cons_zero, List.set_cons_succ]))
          (refine walkS_take (v := ?_) (some 4) rfl rfl (fun _ _ _ h => h) (by rfl) ?_ ?_; rotate_left; (focus (intro w' hw'; go_simp; (try with_reducible rfl))); (try simp only [Act.put, List.setIfInBounds_toArray, List.set_cons_zero, List.set_cons_succ]))
          refine walkS_done ?_
          have HTF := Lib.hid (HT15.out.trans (HQC.out.t.trans hS (fun _ _ h => h)) (fun _ _ h => h))
          clear hS
          go_wp2_with fail
          go_ret
          exact ⟨rfl, HTF.out⟩
theorem stateAnew_holds : Rows.StateAnewSaid := by
  refine stateAnew.said fun H enc W base v0 v1 d0 d1 p0 p1 h0 h1 => ?_
  obtain ⟨a, c, l, rfl, hr, hok⟩ := h0.recsB
  obtain ⟨a2, c2, l2, rfl, hr2, hok2⟩ := h1.recsB
  exact (stateAnew_walk W a c l hr hok a2 c2 l2 hr2 hok2).mono fun e w' h => ⟨h.1, h.2.below (fun _ _ h => h.elim) (Nat.le_refl _)⟩
end Go.Proofs.Ytdhimlkndpiacaa
