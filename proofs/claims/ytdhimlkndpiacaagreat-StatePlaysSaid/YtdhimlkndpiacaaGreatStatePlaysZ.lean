/- StatePlays answers true for any records, any tuple. -/
import Derived.Test.YtdhimlkndpiacaaGreatStVAZ
import Derived.Test.YtdhimlkndpiacaaGreatTupArgsZ
import Derived.Test.YtdhimlkndpiacaaGreatJCZ
import Derived.Test.YtdhimlkndpiacaaGreatRsRZ
import Derived.Test.YtdhimlkndpiacaaGreatFrStatePlaysZ
set_option linter.unusedVariables false
set_option linter.unusedSimpArgs false
namespace Go.Proofs.YtdhimlkndpiacaaGreat
open Go.RowKit

theorem enter_awakeOf (w : World) : (callFunc 6 #[]).run Tryz.prog w = .ok (.enter 6 #[]) w := by kernel_rfl
theorem enter_stappP (a b : Value) (w : World) : (callFunc 8 #[a, b]).run Tryz.prog w = .ok (.enter 8 #[a, b]) w := by kernel_rfl
theorem enter_rsappP (a b : Value) (w : World) : (callFunc 9 #[a, b]).run Tryz.prog w = .ok (.enter 9 #[a, b]) w := by kernel_rfl
theorem enter_recsP (a : Value) (w : World) : (callFunc 15 #[a]).run Tryz.prog w = .ok (.enter 15 #[a]) w := by kernel_rfl
theorem enter_rrecsP (a : Value) (w : World) : (callFunc 16 #[a]).run Tryz.prog w = .ok (.enter 16 #[a]) w := by kernel_rfl
theorem enter_rsrecsP (a b : Value) (w : World) : (callFunc 14 #[a, b]).run Tryz.prog w = .ok (.enter 14 #[a, b]) w := by kernel_rfl
theorem enter_lenP (a : Value) (w : World) : (callFunc 17 #[a]).run Tryz.prog w = .ok (.enter 17 #[a]) w := by kernel_rfl

theorem eqlFl_runS (f : FlD) (x y : Operand) (W : World) : (do eqGuard BinOp.eql 39 x y (.agg (fca f)) (.agg (fca f)); binOp BinOp.eql 39 (.agg (fca f)) (.agg (fca f)) : Sem Value).run Tryz.prog W = .ok (.bool true) W := by
  simp only [fca]
  go_simp
theorem recsV_same (x : StS) (a : Option Addr) (c : Nat) (a' : Option Addr) (c' : Nat) : (recsV x a c).map RecB.r = (recsV x a' c').map RecB.r := by
  unfold recsV; simp [geR]
/-- Backends don't lie in the reference's state. -/
theorem StM.notSt {w : World} {b : Nat} {h : StH} {s : StS} (m : StM w b h s) {K : Nat} {x : StS} {a1 a2 a3 : Option Addr} {c1 c2 c3 : Nat} {T : TypeId} (g : w.heap[K]? = some (.cells (vcs x a1 c1 a2 c2 a3 c3) T (0, 0))) :
    ∀ x, h.ba = some x → s.bs.length = 0 ∨ x.block ≠ K := by
  intro x hx
  by_cases h0 : s.bs.length = 0
  · exact .inl h0
  refine .inr fun e => ?_
  have hr := m.bk
  rw [hx] at hr
  obtain ⟨g0, off, e1⟩ := RowS.some hr (by omega)
  injection e1 with e1
  subst e1
  obtain rfl : g0 = K := e
  have hk : 0 < (s.bs.map BkD.cells).length := by simp; omega
  have e2 : (s.bs.map BkD.cells)[0] = (s.bs[0]'(by omega)).cells := by rw [List.getElem_map]
  have c0 := RowS.cell hr 0 hk 0 _ (by rw [e2]; rfl)
  have c1 := RowS.cell hr 0 hk 1 _ (by rw [e2]; rfl)
  simp only [Nat.zero_mul, Nat.add_zero] at c0 c1
  rw [cell_of_cells g] at c0 c1
  rcases off with _ | _ | _ | _ | off <;> simp [vcs] at c0 c1
set_option maxRecDepth 20000 in
set_option maxHeartbeats 16000000 in
theorem statePlays_walk (W0 : World) (a : Option Addr) (c : Nat) (l : List RecB) (hr : RowRB W0 a l.length c l) (hok : ∀ x ∈ l, RecBOk W0 x) (t : TupD) (ot : TupOk t) :
    Calls Tryz.prog 3 #[.slice a l.length c, .agg (tcs t)] W0 fun e w' => e = .returned (.bool true) ∧ Touch W0 w' (fun _ => False) := by
  obtain ⟨W1, hW1⟩ : ∃ W, W0.alloc (.cells (tcs t) 25) = W := ⟨_, rfl⟩
  obtain ⟨K3, hK3⟩ : ∃ K, W0.heap.size = K := ⟨_, rfl⟩
  have t1 : Touch W0 W1 (fun _ => False) := hW1 ▸ (Touch.refl W0 _).alloc _
  have g1 : W1.heap[K3]? = some (.cells (tcs t) 25 (0, 0)) := hK3 ▸ hW1 ▸ heap_alloc_new ..
  have HG1 : RowKit.Hid (∀ W, Touch W1 W (fun _ => False) → W.heap[K3]? = some (.cells (tcs t) 25 (0, 0))) := Lib.hid (fun W t => t.keeps g1 (fun h => h))
  have HT1 := Lib.hid t1
  have HR := Lib.hid hr
  have HOK := Lib.hid hok
  have HOT := Lib.hid ot
  have HW1 := Lib.hid (And.intro hW1 hK3)
  simp only [tcs] at HW1 ⊢
  have hcap := hr.hcap
  have hmc := hr.hmax
  obtain ⟨n, hn⟩ : ∃ n, l.length = n := ⟨_, rfl⟩
  have HN := Lib.hid hn
  have HLI := Lib.hid (light_any W1 a l.length c l (RowS.still hr t1))
  rw [hn] at HR HLI hcap ⊢
  clear t1 g1 hW1 hK3 hr hok ot hn
  go_enter Tryz.func3, Tryz.ntmps3
  go_upto_region 1 with (fail)
  rw [HW1.out.1, HW1.out.2]
  go_wp2_with fail
  (with_reducible refine HLI.out.mono ?_)
  rintro e W2 ⟨rfl, t2⟩
  have HT2 := Lib.hid t2
  clear t2
  by_cases hl : lightB l = true
  case neg =>
    have hl' : lightB l = false := by simpa using hl
    rw [hl']
    clear hl hl'
    go_wp2_with fail
    refine (awake14 W2).mono ?_
    rintro e w8 ⟨rfl, t8⟩
    have HT8 := Lib.hid ((HT1.out.trans HT2.out (fun _ _ h => h)).trans t8 (fun _ _ h => h))
    clear t8
    go_wp2_with fail
    go_ret
    exact ⟨rfl, HT8.out⟩
  case pos =>
  rw [hl]
  have HL := Lib.hid (lightB_iff.1 hl)
  clear hl
  go_wp2_with fail
  refine (stnew_any W2).mono ?_
  rintro e w3 ⟨b, h, rfl, n3⟩
  obtain ⟨w4, hw4⟩ : ∃ W, w3.alloc (.cells (vcs stZ none 0 none 0 none 0) 37) = W := ⟨_, rfl⟩
  obtain ⟨KM, hKM⟩ : ∃ k, w3.heap.size = k := ⟨_, rfl⟩
  have t4 : Touch w3 w4 (fun _ => False) := hw4 ▸ (Touch.refl w3 _).alloc _
  have g4 : w4.heap[KM]? = some (.cells (vcs stZ none 0 none 0 none 0) 37 (0, 0)) := hKM ▸ hw4 ▸ heap_alloc_new ..
  have hM4 : RsM w4 KM KM (vwS stZ) none 0 none 0 none 0 := vwS_Z.symm ▸ ⟨g4, ⟨RowS.nil w4 none 0 3 (by decide), RowS.nil w4 none 0 2 (by decide), RowS.nil w4 none 0 8 (by decide)⟩, (fun x hx => by cases hx), (fun x hx => by cases hx), (fun x hx => by cases hx), .inl rfl, .inl rfl, Nat.le_refl _⟩
  have HN4 := Lib.hid (n3.still t4)
  have HM4 := Lib.hid hM4
  have HFW : RowKit.Hid (∀ q, footS b h q → W2.heap.size ≤ q) := Lib.hid n3.f
  have HFK0 : RowKit.Hid (∀ q, footS b h q → q < KM) := Lib.hid (fun q hq => hKM ▸ n3.m.lt q hq)
  have HFK : RowKit.Hid (∀ q (w6 : World), Touch W2 w6 (fun _ => False) → footS b h q → q ≠ KM ∧ (q < KM ∨ w6.heap.size ≤ q)) := Lib.hid (fun q w6 _ hq => by have := HFK0.out q hq; omega)
  have HKW : RowKit.Hid (W2.heap.size ≤ KM) := Lib.hid (hKM ▸ n3.t.size)
  have HW4 := Lib.hid (And.intro hw4 hKM)
  simp only [vcs, stZ, List.length_nil] at HW4
  clear t4 g4 hM4 hw4 hKM n3
  go_upto_region 4 with (fail)
  rw [HW4.out.1, HW4.out.2]
  go_wp2_with fail
  go_loopw [25] (fun s25 wr => ∃ (k : Nat) (hk : StH) (s : StS), k ≤ n ∧ s25 = .int .i64 k ∧ StN W2 wr b hk s ∧ hk.dm = h.dm ∧ hk.fm = h.fm ∧ (∃ b1 e1 b2 e2 b3 e3, RsM wr KM KM (vwS s) b1 e1 b2 e2 b3 e3)) (fun s25 _ => n - (RowKit.intOf s25).toNat)
  case atStart => exact ⟨0, h, stZ, Nat.zero_le _, rfl, HN4.out, rfl, rfl, _, _, _, _, _, _, HM4.out⟩
  case round =>
    obtain ⟨k, hk, s, hkn, rfl, hq, f1, f2, ⟨b1, e1, b2, e2, b3, e3, hm⟩⟩ := hrel
    have HQ := Lib.hid hq
    have HM := Lib.hid hm
    have HF := Lib.hid (And.intro f1 f2)
    have HFE : RowKit.Hid (footS b hk = footS b h) := Lib.hid (by funext q; unfold footS; rw [f1, f2])
    clear hq hm f1 f2
    by_cases hlt : k < n
    case pos =>
      have hkL : k < l.length := by have := HN.out; omega
      have HRX := Lib.hid (RowS.still HR.out ((HT1.out.trans HT2.out (fun _ _ h => h)).trans HQ.out.t (fun _ _ h => h)))
      obtain ⟨gr, off, rfl⟩ := HRX.out.some (by omega)
      obtain ⟨d0, d1, d2, d3, d4, d5, d6, d7, d8, d9, d10, d11, d12, d13⟩ := recB_cells HRX.out k hkL
      have HYO := Lib.hid (HOK.out _ (grb_mem l k hkL))
      have HYL := Lib.hid (HL.out.2 _ (grb_mem l k hkL))
      obtain ⟨y, hy⟩ : ∃ y, grb l k = y := ⟨_, rfl⟩
      rw [hy] at d0 d1 d2 d3 d4 d5 d6 d7 d8 d9 d10 d11 d12 d13 HYO HYL
      clear hy hkL
      have HYW : RowKit.Hid (∀ W, Touch W2 W (fun _ => False) → RowK W y.a y.r.bs.length y.c y.r.bs) := Lib.hid (fun W t => HYO.out.2.still ((HT1.out.trans HT2.out (fun _ _ h => h)).trans t (fun _ _ h => h)))
      obtain ⟨w6, hw6⟩ : ∃ W, wr.alloc (.cells (rcs y.r y.a y.c) 41) = W := ⟨_, rfl⟩
      obtain ⟨K8, hK8⟩ : ∃ K, wr.heap.size = K := ⟨_, rfl⟩
      have t6 : Touch wr w6 (fun _ => False) := hw6 ▸ (Touch.refl wr _).alloc _
      have g6 : w6.heap[K8]? = some (.cells (rcs y.r y.a y.c) 41 (0, 0)) := hK8 ▸ hw6 ▸ heap_alloc_new ..
      have HN6 := Lib.hid (HQ.out.still t6)
      have HR6 := Lib.hid (HM.out.still t6)
      have HG8 : RowKit.Hid (∀ W, Touch w6 W (fun q => footS b h q ∨ q = KM) → W.heap[K8]? = some (.cells (rcs y.r y.a y.c) 41 (0, 0))) := Lib.hid (fun W t => t.keeps g6 (fun e => by
        have hlt := heap_lt HM.out.head
        rcases e with e | e
        · have := HFK0.out _ e; omega
        · omega))
      have HAP := Lib.hid (stapply_any w6.drew b hk s (HN6.out.m.still (Touch.refl w6 _).drew) y.r y.a y.c (HYW.out _ (HN6.out.t.drew)) (by have := HYL.out; omega) HYO.out.1)
      have HVN := Lib.hid (vw_nd HN6.out.m.ok)
      have HAR : RowKit.Hid (∀ W, RsM W KM KM (vwS s) b1 e1 b2 e2 b3 e3 → RowK W y.a y.r.bs.length y.c y.r.bs → Calls Tryz.prog 9 #[.pointer (some ⟨KM, 0, none⟩), .agg (rcs y.r y.a y.c)] W fun e w' => e = .returned (.int .i64 (stE s y.r)) ∧ RsTo W w' KM KM (vwS (stS s y.r))) := Lib.hid (fun W q hy => by
        have h9 := rstapply_any W KM KM (vwS s) b1 e1 b2 e2 b3 e3 q HVN.out.2.2.1 HVN.out.2.2.2 HVN.out.1 HVN.out.2.1 y.r y.a y.c hy (by have := HYL.out; omega)
        rwa [rs_simE, rs_sim HN6.out.m.ok] at h9)
      have HW6 := Lib.hid (And.intro hw6 hK8)
      have hlI : (k : Int) < n := by omega
      simp only [rcs] at HW6
      clear t6 g6 hw6 hK8
      go_upto_region 9 with (fail)
      rw [HW6.out.1, HW6.out.2]
      clear d0 d1 d2 d3 d4 d5 d6 d7 d8 d9 d10 d11 d12 d13
      have hS := (Touch.refl w6 (fun q => footS b h q ∨ q = KM)).drew
      refine wp_region_sched (fun w' => Touch w6 w' (fun q => footS b h q ∨ q = KM)) [(0, true), (1, true), (3, true), (4, true), (2, false), (5, false), (6, true)] (by kernel_rfl) (by kernel_rfl) rfl (by kernel_rfl) hS ?_
      (refine walkS_take (v := ?_) (some 29) rfl rfl (fun _ _ _ h => h) (by rfl) ?_ ?_; rotate_left; (focus (intro w' hw'; go_simp; (try with_reducible rfl))); (try simp only [Act.put, List.setIfInBounds_toArray, List.set_cons_zero, List.set_cons_succ]))
      (refine walkS_row (some 30) rfl rfl 41 (.tmp 8) rfl (K8) rfl _ _ _ _ (fun w' h => HG8.out _ h) Tryz.underlying41 rfl (infoRec14 _ _ _) (fun _ _ _ h => h) (by rfl) ?_; (try simp only [Act.put, List.setIfInBounds_toArray, List.set_cons_zero, List.set_cons_succ]))
      (refine walkS_take (v := ?_) (some 32) rfl rfl (fun _ _ _ h => h) (by rfl) ?_ ?_; rotate_left; (focus (intro w' hw'; go_simp; (try with_reducible rfl))); (try simp only [Act.put, List.setIfInBounds_toArray, List.set_cons_zero, List.set_cons_succ]))
      (refine walkS_row (some 33) rfl rfl 41 (.tmp 8) rfl (K8) rfl _ _ _ _ (fun w' h => HG8.out _ h) Tryz.underlying41 rfl (infoRec14 _ _ _) (fun _ _ _ h => h) (by rfl) ?_; (try simp only [Act.put, List.setIfInBounds_toArray, List.set_cons_zero, List.set_cons_succ]))
      (refine walkS_call 31 _ _ _ _ (HAP.out) rfl rfl rfl (by rfl) rfl (enter_stappP _ _ _) ?_; rintro e w7 ⟨rfl, s7⟩; have HS7 := Lib.hid s7; have HT7 : RowKit.Hid (Touch w6 w7 (footS b h)) := Lib.hid ((Touch.refl w6 (footS b h)).drew.trans (HFE.out ▸ s7.touch) (fun _ _ h => h)); have HR7 := Lib.hid (HR6.out.touch HT7.out (fun q hq => HFK.out q w6 HN6.out.t hq)); have HY7 := Lib.hid (HYW.out w7 (HN6.out.t.trans HT7.out (fun q hq hf => by have := HFW.out q hf; omega))); have hS : Touch w6 w7 (fun q => footS b h q ∨ q = KM) := HT7.out.mono (fun _ _ h => .inl h); clear s7; refine ⟨_, rfl, hS, fun hS => ?_⟩; (try simp only [Act.put, List.setIfInBounds_toArray, List.set_cons_zero, List.set_cons_succ]))
      (refine walkS_call 34 _ _ _ _ ((HAR.out _ HR7.out HY7.out)) rfl rfl rfl (by rfl) rfl (enter_rsappP _ _ _) ?_; rintro e w8 ⟨rfl, s8⟩; have HS8 := Lib.hid s8; have hS := hS.trans s8.2 (fun _ _ h => .inr h); clear s8; refine ⟨_, rfl, hS, fun hS => ?_⟩; (try simp only [Act.put, List.setIfInBounds_toArray, List.set_cons_zero, List.set_cons_succ]))
      (refine walkS_take (v := ?_) (some 35) rfl rfl (fun _ _ _ h => h) (by rfl) ?_ ?_; rotate_left; (focus (intro w' hw'; go_simp; (try with_reducible rfl))); (try simp only [Act.put, List.setIfInBounds_toArray, List.set_cons_zero, List.set_cons_succ]))
      refine walkS_done ?_
      have HX' : RowKit.Hid (∃ (k' : Nat) (hk : StH) (s : StS), k' ≤ n ∧ Value.int .i64 ((k : Int) + 1) = .int .i64 k' ∧ StN W2 w8 b hk s ∧ hk.dm = h.dm ∧ hk.fm = h.fm ∧ (∃ b1 e1 b2 e2 b3 e3, RsM w8 KM KM (vwS s) b1 e1 b2 e2 b3 e3)) := Lib.hid (by
        obtain ⟨h7, m7, q1, q2, t7⟩ := HS7.out
        have hfe : footS b h7 = footS b h := by funext q; unfold footS; rw [q1, q2, HF.out.1, HF.out.2]
        refine ⟨k + 1, h7, stS s y.r, by omega, by go_num, ⟨m7.touch HS8.out.2 (fun q hq e => ?_) (m7.notSt HR7.out.head), HN6.out.t.trans hS (fun q hq hf => ?_), fun q hq => ?_⟩, q1.trans HF.out.1, q2.trans HF.out.2, HS8.out.1⟩
        · rw [hfe] at hq; have := HFK0.out q hq; omega
        · rcases hf with hf | rfl
          · have := HFW.out q hf; omega
          · have := HKW.out; omega
        · rw [hfe] at hq; exact HFW.out q hq)
      clear hS
      go_wp2_with fail
      go_roundw
      · exact HX'.out
      · simp only [RowKit.intOf]; omega
    case neg =>
    obtain rfl : n = k := by omega
    have hlI : ¬ (n : Int) < n := by omega
    clear hlt hkn
    obtain ⟨w10, hw10⟩ : ∃ W, wr.alloc (.cells #[.slice b3 (vwS s).F.length e3, .int .i64 0, .int .i64 0] 46) = W := ⟨_, rfl⟩
    obtain ⟨KT, hKT⟩ : ∃ K, wr.heap.size = K := ⟨_, rfl⟩
    have t10 : Touch wr w10 (fun _ => False) := hw10 ▸ (Touch.refl wr _).alloc _
    have g10 : w10.heap[KT]? = some (.cells #[.slice b3 (vwS s).F.length e3, .int .i64 0, .int .i64 0] 46 (0, 0)) := hKT ▸ hw10 ▸ heap_alloc_new ..
    have x3 := HM.out.cells.2.2.2
    have HM10 := Lib.hid (HM.out.still t10)
    have HN10 := Lib.hid (HQ.out.still t10)
    have HRF : RowKit.Hid (RF w10 KT b3 e3 0 0 (vwS s).F) := Lib.hid ⟨g10, HM10.out.vw.f, fun x hx => .inr (fun e => by have := (HM.out.b3 x hx).2.2; omega), HM.out.p3⟩
    have HW10 := Lib.hid (And.intro hw10 hKT)
    obtain ⟨fl, hfl⟩ : ∃ f, getF s.F t = f := ⟨_, rfl⟩
    obtain ⟨B, hB⟩ : ∃ B, hasF s.F t = B := ⟨_, rfl⟩
    have HGET : RowKit.Hid (Calls Tryz.prog 10 #[.pointer (some ⟨b, 0, none⟩), .agg (tcs t)] w10 fun e w' => e = .returned (.tuple #[.agg (fca fl), .bool B]) ∧ Touch w10 w' (fun _ => False)) := Lib.hid (hfl ▸ hB ▸ stget_any w10 b hk s HN10.out.m t HOT.out)
    have HRGT : RowKit.Hid (∀ W, Touch w10 W (fun _ => False) → Calls Tryz.prog 11 #[.pointer (some ⟨KT, 0, none⟩), .agg (tcs t)] W fun e w' => e = .returned (.tuple #[.agg (fca fl), .bool B]) ∧ Touch W w' (fun _ => False)) := Lib.hid (fun W x => by
      have h9 := rfget_any W KT b3 e3 0 0 (vwS s).F (HRF.out.still x) (vw_nd HN10.out.m.ok).1 t
      rwa [show getF (vwS s).F t = fl from (getF_perm (srtF_perm s.F) (vw_nd HN10.out.m.ok).1 t).trans hfl, show hasF (vwS s).F t = B from (hasF_perm (srtF_perm s.F) t).trans hB] at h9)
    have HG3 : RowKit.Hid (∀ W, Touch w10 W (fun _ => False) → _) := Lib.hid (fun W x => tcells_of (HG1.out W (HT2.out.trans (HN10.out.t.trans x (fun _ _ h => h)) (fun _ _ h => h))))
    simp only [tcs, fca] at HGET HRGT
    clear t10 g10 hw10 hKT hfl hB
    go_upto_region 13 with (fail)
    rw [HW10.out.1, HW10.out.2]
    clear x3 hlI
    obtain ⟨y0, y1, y2, y3, y4⟩ := HG3.out w10 (Touch.refl _ _)
    go_wp2_with fail
    (with_reducible refine HGET.out.mono ?_)
    rintro e w11 ⟨rfl, t11⟩
    obtain ⟨w12, hw12⟩ : ∃ W, w11.alloc (.cells (fca fl) 39) = W := ⟨_, rfl⟩
    obtain ⟨KA, hKA⟩ : ∃ K, w11.heap.size = K := ⟨_, rfl⟩
    have t12 : Touch w11 w12 (fun _ => False) := hw12 ▸ (Touch.refl w11 _).alloc _
    have g12 : w12.heap[KA]? = some (.cells (fca fl) 39 (0, 0)) := hKA ▸ hw12 ▸ heap_alloc_new ..
    have HT12 := Lib.hid (t11.trans t12 (fun _ _ h => h))
    have HG12 := Lib.hid g12
    have HW12 := Lib.hid (And.intro hw12 hKA)
    simp only [fca] at HW12
    clear t11 t12 g12 hw12 hKA y0 y1 y2 y3 y4
    go_upto_region 14 with (fail)
    rw [HW12.out.1, HW12.out.2]
    obtain ⟨y0, y1, y2, y3, y4⟩ := HG3.out w12 HT12.out
    go_wp2_with fail
    (with_reducible refine (HRGT.out _ HT12.out).mono ?_)
    rintro e w13 ⟨rfl, t13⟩
    obtain ⟨w14, hw14⟩ : ∃ W, w13.alloc (.cells (fca fl) 39) = W := ⟨_, rfl⟩
    obtain ⟨KC, hKC⟩ : ∃ K, w13.heap.size = K := ⟨_, rfl⟩
    have t14 : Touch w13 w14 (fun _ => False) := hw14 ▸ (Touch.refl w13 _).alloc _
    have g14 : w14.heap[KC]? = some (.cells (fca fl) 39 (0, 0)) := hKC ▸ hw14 ▸ heap_alloc_new ..
    have HT14 := Lib.hid (HT12.out.trans (t13.trans t14 (fun _ _ h => h)) (fun _ _ h => h))
    have HGA0 := Lib.hid ((t13.trans t14 (fun _ _ h => h)).keeps HG12.out (fun h => h))
    have HGA : RowKit.Hid (∀ W, Touch w14 W (fun _ => False) → W.heap[KA]? = some (.cells (fca fl) 39 (0, 0))) := Lib.hid (fun W x => x.keeps HGA0.out (fun h => h))
    have HGC : RowKit.Hid (∀ W, Touch w14 W (fun _ => False) → W.heap[KC]? = some (.cells (fca fl) 39 (0, 0))) := Lib.hid (fun W x => x.keeps g14 (fun h => h))
    have HM14 := Lib.hid (HN10.out.m.still HT14.out)
    have HRM := Lib.hid (HM10.out.still HT14.out)
    have HGM : RowKit.Hid (∀ W, Touch w14 W (fun _ => False) → W.heap[KM]? = some (.cells (vcs (vwS s) b1 e1 b2 e2 b3 e3) 37 (0, 0))) := Lib.hid (fun W x => x.keeps HRM.out.head (fun h => h))
    have HVW : RowKit.Hid (∀ W, Touch w14 W (fun _ => False) → VwAt W (vwS s) b1 e1 b2 e2 b3 e3) := Lib.hid (fun W x => HRM.out.vw.still x)
    obtain ⟨n9, hn9⟩ : ∃ n, 1 + s.D.length + s.F.length = n := ⟨_, rfl⟩
    have hn8 : 1 + (vwS s).D.length + (vwS s).F.length = n9 := by rw [← hn9, show (vwS s).D.length = s.D.length from (srtD_perm _).length_eq, show (vwS s).F.length = s.F.length from (srtF_perm _).length_eq]
    have HBL : RowKit.Hid ((vwS s).bs.length ≤ 100000) := Lib.hid (by have h := (gmay_iff _).1 HM14.out.ok.bs; have h2 := h.1; show s.bs.length ≤ 100000; omega)
    have HREC : RowKit.Hid (∀ W, Touch w14 W (fun _ => False) → _) := Lib.hid (fun W x => hn9 ▸ strecs_any W b hk s (HM14.out.still x))
    have HRRC : RowKit.Hid (∀ W, Touch w14 W (fun _ => False) → _) := Lib.hid (fun W x => hn8 ▸ rrecords_any W (vwS s) b1 e1 b2 e2 b3 e3 (HVW.out W x) (by have := (vw_nd HM14.out.ok).2.2.2; omega) (by have := (vw_nd HM14.out.ok).2.2.1; omega))
    have HLN : RowKit.Hid (∀ W, Touch w14 W (fun _ => False) → _) := Lib.hid (fun W x => hn9 ▸ stlen_any W b hk s (HM14.out.still x))
    have HEND : RowKit.Hid (∀ W, Touch w14 W (fun _ => False) → Touch W0 W (fun _ => False)) := Lib.hid (fun W x => (HT1.out.trans HT2.out (fun _ _ h => h)).trans (HN10.out.t.trans (HT14.out.trans x (fun _ _ h => h)) (fun _ _ h => h)) (fun _ _ h => h))
    have HW14 := Lib.hid (And.intro hw14 hKC)
    simp only [fca] at HW14
    clear t13 t14 g14 hw14 hKC hn9 hn8 y0 y1 y2 y3 y4
    go_upto_region 15 with (fail)
    rw [HW14.out.1, HW14.out.2]
    have hS := (Touch.refl w14 (fun _ => False)).drew
    refine wp_region_sched (fun w' => Touch w14 w' (fun _ => False)) [(0, true), (1, true), (2, true), (3, true), (4, true), (5, true), (6, true), (7, true), (8, true), (9, true), (11, true), (12, true), (13, true), (14, true), (10, false), (15, false), (16, true), (17, true), (18, true), (20, true), (21, true), (22, true), (23, true), (19, false), (24, false), (25, false), (26, true), (27, true), (28, true), (30, true), (31, true), (32, true), (33, true), (29, false), (34, false), (35, true), (36, true), (37, true), (38, true), (39, false), (40, true), (41, true)] (by kernel_rfl) (by kernel_rfl) rfl (by kernel_rfl) hS ?_
    (refine walkS_row (some 56) rfl rfl 39 (.tmp 10) rfl (KA) rfl _ _ _ _ (fun w' h => HGA.out _ h) Tryz.underlying39 rfl infoFlG (fun _ _ _ h => h) (by rfl) ?_; (try simp only [Act.put, List.setIfInBounds_toArray, List.set_cons_zero, List.set_cons_succ]))
    (refine walkS_row (some 57) rfl rfl 39 (.tmp 12) rfl (KC) rfl _ _ _ _ (fun w' h => HGC.out _ h) Tryz.underlying39 rfl infoFlG (fun _ _ _ h => h) (by rfl) ?_; (try simp only [Act.put, List.setIfInBounds_toArray, List.set_cons_zero, List.set_cons_succ]))
    (refine walkS_bin (some 58) _ _ _ _ _ _ _ _ (eqlFl_runS _) rfl rfl rfl rfl rfl (fun _ _ _ h => h) (by rfl) ?_; (try simp only [Act.put, List.setIfInBounds_toArray, List.set_cons_zero, List.set_cons_succ]))
    (refine walkS_take (v := ?_) (some 59) rfl rfl (fun _ _ _ h => h) (by rfl) ?_ ?_; rotate_left; (focus (intro w' hw'; go_simp; (try with_reducible rfl))); (try simp only [Act.put, List.setIfInBounds_toArray, List.set_cons_zero, List.set_cons_succ]))
    first | (refine walkS_skip (some 60) rfl rfl (by rfl) (fun _ _ _ h => h) hS ?_; (try simp only [Act.put, List.setIfInBounds_toArray, List.set_cons_zero, List.set_cons_succ])) | (refine walkS_take (v := ?_) (some 60) rfl rfl (fun _ _ _ h => h) (by rfl) ?_ ?_; rotate_left; (focus (intro w' hw'; go_simp; (try with_reducible rfl))); (try simp only [Act.put, List.setIfInBounds_toArray, List.set_cons_zero, List.set_cons_succ]))
    first | (refine walkS_skip (some 61) rfl rfl (by rfl) (fun _ _ _ h => h) hS ?_; (try simp only [Act.put, List.setIfInBounds_toArray, List.set_cons_zero, List.set_cons_succ])) | (refine walkS_take (v := ?_) (some 61) rfl rfl (fun _ _ _ h => h) (by rfl) ?_ ?_; rotate_left; (focus (intro w' hw'; go_simp; (try with_reducible rfl))); (try simp only [Act.put, List.setIfInBounds_toArray, List.set_cons_zero, List.set_cons_succ]))
    first | (refine walkS_skip (some 62) rfl rfl (by rfl) (fun _ _ _ h => h) hS ?_; (try simp only [Act.put, List.setIfInBounds_toArray, List.set_cons_zero, List.set_cons_succ])) | (refine walkS_take (v := ?_) (some 62) rfl rfl (fun _ _ _ h => h) (by rfl) ?_ ?_; rotate_left; (focus (intro w' hw'; go_simp; (try with_reducible rfl))); (try simp only [Act.put, List.setIfInBounds_toArray, List.set_cons_zero, List.set_cons_succ]))
    (refine walkS_take (v := ?_) (some 63) rfl rfl (fun _ _ _ h => h) (by rfl) ?_ ?_; rotate_left; (focus (intro w' hw'; go_simp; (try with_reducible rfl))); (try simp only [Act.put, List.setIfInBounds_toArray, List.set_cons_zero, List.set_cons_succ]))
    (refine walkS_take (v := ?_) (some 64) rfl rfl (fun _ _ _ h => h) (by rfl) ?_ ?_; rotate_left; (focus (intro w' hw'; go_simp; (try with_reducible rfl))); (try simp only [Act.put, List.setIfInBounds_toArray, List.set_cons_zero, List.set_cons_succ]))
    first | (refine walkS_skip (some 65) rfl rfl (by rfl) (fun _ _ _ h => h) hS ?_; (try simp only [Act.put, List.setIfInBounds_toArray, List.set_cons_zero, List.set_cons_succ])) | (refine walkS_take (v := ?_) (some 65) rfl rfl (fun _ _ _ h => h) (by rfl) ?_ ?_; rotate_left; (focus (intro w' hw'; go_simp; (try with_reducible rfl))); (try simp only [Act.put, List.setIfInBounds_toArray, List.set_cons_zero, List.set_cons_succ]))
    first | (refine walkS_skip (some 67) rfl rfl (by rfl) (fun _ _ _ h => h) hS ?_; (try simp only [Act.put, List.setIfInBounds_toArray, List.set_cons_zero, List.set_cons_succ])) | (refine walkS_take (v := ?_) (some 67) rfl rfl (fun _ _ _ h => h) (by rfl) ?_ ?_; rotate_left; (focus (intro w' hw'; go_simp; (try with_reducible rfl))); (try simp only [Act.put, List.setIfInBounds_toArray, List.set_cons_zero, List.set_cons_succ]))
    first | (refine walkS_skip (some 68) rfl rfl (by rfl) (fun _ _ _ h => h) hS ?_; (try simp only [Act.put, List.setIfInBounds_toArray, List.set_cons_zero, List.set_cons_succ])) | (refine walkS_take (v := ?_) (some 68) rfl rfl (fun _ _ _ h => h) (by rfl) ?_ ?_; rotate_left; (focus (intro w' hw'; go_simp; (try with_reducible rfl))); (try simp only [Act.put, List.setIfInBounds_toArray, List.set_cons_zero, List.set_cons_succ]))
    first | (refine walkS_skip (some 69) rfl rfl (by rfl) (fun _ _ _ h => h) hS ?_; (try simp only [Act.put, List.setIfInBounds_toArray, List.set_cons_zero, List.set_cons_succ])) | (refine walkS_take (v := ?_) (some 69) rfl rfl (fun _ _ _ h => h) (by rfl) ?_ ?_; rotate_left; (focus (intro w' hw'; go_simp; (try with_reducible rfl))); (try simp only [Act.put, List.setIfInBounds_toArray, List.set_cons_zero, List.set_cons_succ]))
    first | (refine walkS_skip (some 70) rfl rfl (by rfl) (fun _ _ _ h => h) hS ?_; (try simp only [Act.put, List.setIfInBounds_toArray, List.set_cons_zero, List.set_cons_succ])) | (refine walkS_row (some 70) rfl rfl 35 (.tmp 69) rfl (KM) rfl _ _ _ _ (fun w' h => HGM.out _ h) Tryz.underlying35 rfl (infoVF _ _ _ _ _ _ _) (fun _ _ _ h => h) (by rfl) ?_; (try simp only [Act.put, List.setIfInBounds_toArray, List.set_cons_zero, List.set_cons_succ]))
    first | (refine walkS_skip (some 66) rfl rfl (by rfl) (fun _ _ _ h => h) hS ?_; (try simp only [Act.put, List.setIfInBounds_toArray, List.set_cons_zero, List.set_cons_succ])) | (refine walkS_call 66 _ _ _ _ ((stvw_any _ b hk s (HM14.out.still hS))) rfl rfl rfl (by rfl) rfl (enter_viewF _ _) ?_; rintro e w' ⟨f1, g1, f2, g2, f3, g3, rfl, ⟨va, -⟩, t9⟩; have HSM := Lib.hid (rsame14_any w' _ _ _ _ _ _ _ _ _ _ _ _ _ _ va (HVW.out _ (hS.trans t9 (fun _ _ h => h)))); rw [same14_refl] at HSM; have hS := hS.trans t9 (fun _ _ h => h); clear va t9; refine ⟨_, rfl, hS, fun hS => ?_⟩; (try simp only [Act.put, List.setIfInBounds_toArray, List.set_cons_zero, List.set_cons_succ]))
    first | (refine walkS_skip (some 71) rfl rfl (by rfl) (fun _ _ _ h => h) hS ?_; (try simp only [Act.put, List.setIfInBounds_toArray, List.set_cons_zero, List.set_cons_succ])) | (refine walkS_call 71 _ _ _ _ (HSM.out) rfl rfl rfl (by rfl) rfl (enter_rsameV _ _ _) ?_; rintro e w' ⟨rfl, t⟩; have hS := hS.trans t (fun _ _ h => h); clear t; refine ⟨_, rfl, hS, fun hS => ?_⟩; (try simp only [Act.put, List.setIfInBounds_toArray, List.set_cons_zero, List.set_cons_succ]))
    (refine walkS_take (v := ?_) (some 72) rfl rfl (fun _ _ _ h => h) (by rfl) ?_ ?_; rotate_left; (focus (intro w' hw'; go_simp; (try with_reducible rfl))); (try simp only [Act.put, List.setIfInBounds_toArray, List.set_cons_zero, List.set_cons_succ]))
    (refine walkS_take (v := ?_) (some 73) rfl rfl (fun _ _ _ h => h) (by rfl) ?_ ?_; rotate_left; (focus (intro w' hw'; go_simp; (try with_reducible rfl))); (try simp only [Act.put, List.setIfInBounds_toArray, List.set_cons_zero, List.set_cons_succ]))
    first | (refine walkS_skip (some 74) rfl rfl (by rfl) (fun _ _ _ h => h) hS ?_; (try simp only [Act.put, List.setIfInBounds_toArray, List.set_cons_zero, List.set_cons_succ])) | (refine walkS_take (v := ?_) (some 74) rfl rfl (fun _ _ _ h => h) (by rfl) ?_ ?_; rotate_left; (focus (intro w' hw'; go_simp; (try with_reducible rfl))); (try simp only [Act.put, List.setIfInBounds_toArray, List.set_cons_zero, List.set_cons_succ]))
    first | (refine walkS_skip (some 76) rfl rfl (by rfl) (fun _ _ _ h => h) hS ?_; (try simp only [Act.put, List.setIfInBounds_toArray, List.set_cons_zero, List.set_cons_succ])) | (refine walkS_take (v := ?_) (some 76) rfl rfl (fun _ _ _ h => h) (by rfl) ?_ ?_; rotate_left; (focus (intro w' hw'; go_simp; (try with_reducible rfl))); (try simp only [Act.put, List.setIfInBounds_toArray, List.set_cons_zero, List.set_cons_succ]))
    first | (refine walkS_skip (some 77) rfl rfl (by rfl) (fun _ _ _ h => h) hS ?_; (try simp only [Act.put, List.setIfInBounds_toArray, List.set_cons_zero, List.set_cons_succ])) | (refine walkS_take (v := ?_) (some 77) rfl rfl (fun _ _ _ h => h) (by rfl) ?_ ?_; rotate_left; (focus (intro w' hw'; go_simp; (try with_reducible rfl))); (try simp only [Act.put, List.setIfInBounds_toArray, List.set_cons_zero, List.set_cons_succ]))
    first | (refine walkS_skip (some 78) rfl rfl (by rfl) (fun _ _ _ h => h) hS ?_; (try simp only [Act.put, List.setIfInBounds_toArray, List.set_cons_zero, List.set_cons_succ])) | (refine walkS_take (v := ?_) (some 78) rfl rfl (fun _ _ _ h => h) (by rfl) ?_ ?_; rotate_left; (focus (intro w' hw'; go_simp; (try with_reducible rfl))); (try simp only [Act.put, List.setIfInBounds_toArray, List.set_cons_zero, List.set_cons_succ]))
    first | (refine walkS_skip (some 79) rfl rfl (by rfl) (fun _ _ _ h => h) hS ?_; (try simp only [Act.put, List.setIfInBounds_toArray, List.set_cons_zero, List.set_cons_succ])) | (refine walkS_row (some 79) rfl rfl 35 (.tmp 78) rfl (KM) rfl _ _ _ _ (fun w' h => HGM.out _ h) Tryz.underlying35 rfl (infoVF _ _ _ _ _ _ _) (fun _ _ _ h => h) (by rfl) ?_; (try simp only [Act.put, List.setIfInBounds_toArray, List.set_cons_zero, List.set_cons_succ]))
    first | (refine walkS_skip (some 75) rfl rfl (by rfl) (fun _ _ _ h => h) hS ?_; (try simp only [Act.put, List.setIfInBounds_toArray, List.set_cons_zero, List.set_cons_succ])) | (refine walkS_call 75 _ _ _ _ ((HREC.out _ hS)) rfl rfl rfl (by rfl) rfl (enter_recsP _ _) ?_; rintro e w' ⟨ra, rc, r1, k1, rfl, o9, k9, -, t9⟩; have HO9 := Lib.hid (And.intro (o9.row').2.1 k9); have hS := hS.trans t9 (fun _ _ h => h); clear o9 k9 t9; refine ⟨_, rfl, hS, fun hS => ?_⟩; (try simp only [Act.put, List.setIfInBounds_toArray, List.set_cons_zero, List.set_cons_succ]))
    first | (refine walkS_skip (some 80) rfl rfl (by rfl) (fun _ _ _ h => h) hS ?_; (try simp only [Act.put, List.setIfInBounds_toArray, List.set_cons_zero, List.set_cons_succ])) | (refine walkS_call 80 _ _ _ _ ((HRRC.out _ hS)) rfl rfl rfl (by rfl) rfl (enter_rrecsP _ _) ?_; rintro e w' ⟨r2, k2, rfl, o8, t8⟩; have HSR := Lib.hid (rsrecs_any w' r1 n9 k1 _ r2 k2 _ (RowS.still HO9.out.1 t8) (o8.row').2.1 (recsV_same _ _ _ _ _) (recsV_bs (RowK.still HO9.out.2 t8) HBL.out) (recsV_bs (HVW.out _ (hS.trans t8 (fun _ _ h => h))).b HBL.out)); have hS := hS.trans t8 (fun _ _ h => h); clear o8 t8; refine ⟨_, rfl, hS, fun hS => ?_⟩; (try simp only [Act.put, List.setIfInBounds_toArray, List.set_cons_zero, List.set_cons_succ]))
    first | (refine walkS_skip (some 81) rfl rfl (by rfl) (fun _ _ _ h => h) hS ?_; (try simp only [Act.put, List.setIfInBounds_toArray, List.set_cons_zero, List.set_cons_succ])) | (refine walkS_call 81 _ _ _ _ (HSR.out) rfl rfl rfl (by rfl) rfl (enter_rsrecsP _ _ _) ?_; rintro e w' ⟨rfl, t⟩; have hS := hS.trans t (fun _ _ h => h); clear t; refine ⟨_, rfl, hS, fun hS => ?_⟩; (try simp only [Act.put, List.setIfInBounds_toArray, List.set_cons_zero, List.set_cons_succ]))
    (refine walkS_take (v := ?_) (some 82) rfl rfl (fun _ _ _ h => h) (by rfl) ?_ ?_; rotate_left; (focus (intro w' hw'; go_simp; (try with_reducible rfl))); (try simp only [Act.put, List.setIfInBounds_toArray, List.set_cons_zero, List.set_cons_succ]))
    (refine walkS_take (v := ?_) (some 83) rfl rfl (fun _ _ _ h => h) (by rfl) ?_ ?_; rotate_left; (focus (intro w' hw'; go_simp; (try with_reducible rfl))); (try simp only [Act.put, List.setIfInBounds_toArray, List.set_cons_zero, List.set_cons_succ]))
    first | (refine walkS_skip (some 84) rfl rfl (by rfl) (fun _ _ _ h => h) hS ?_; (try simp only [Act.put, List.setIfInBounds_toArray, List.set_cons_zero, List.set_cons_succ])) | (refine walkS_take (v := ?_) (some 84) rfl rfl (fun _ _ _ h => h) (by rfl) ?_ ?_; rotate_left; (focus (intro w' hw'; go_simp; (try with_reducible rfl))); (try simp only [Act.put, List.setIfInBounds_toArray, List.set_cons_zero, List.set_cons_succ]))
    first | (refine walkS_skip (some 86) rfl rfl (by rfl) (fun _ _ _ h => h) hS ?_; (try simp only [Act.put, List.setIfInBounds_toArray, List.set_cons_zero, List.set_cons_succ])) | (refine walkS_take (v := ?_) (some 86) rfl rfl (fun _ _ _ h => h) (by rfl) ?_ ?_; rotate_left; (focus (intro w' hw'; go_simp; (try with_reducible rfl))); (try simp only [Act.put, List.setIfInBounds_toArray, List.set_cons_zero, List.set_cons_succ]))
    first | (refine walkS_skip (some 87) rfl rfl (by rfl) (fun _ _ _ h => h) hS ?_; (try simp only [Act.put, List.setIfInBounds_toArray, List.set_cons_zero, List.set_cons_succ])) | (refine walkS_take (v := ?_) (some 87) rfl rfl (fun _ _ _ h => h) (by rfl) ?_ ?_; rotate_left; (focus (intro w' hw'; go_simp; (try with_reducible rfl))); (try simp only [Act.put, List.setIfInBounds_toArray, List.set_cons_zero, List.set_cons_succ]))
    first | (refine walkS_skip (some 88) rfl rfl (by rfl) (fun _ _ _ h => h) hS ?_; (try simp only [Act.put, List.setIfInBounds_toArray, List.set_cons_zero, List.set_cons_succ])) | (refine walkS_take (v := ?_) (some 88) rfl rfl (fun _ _ _ h => h) (by rfl) ?_ ?_; rotate_left; (focus (intro w' hw'; go_simp; (try with_reducible rfl))); (try simp only [Act.put, List.setIfInBounds_toArray, List.set_cons_zero, List.set_cons_succ]))
    first | (refine walkS_skip (some 89) rfl rfl (by rfl) (fun _ _ _ h => h) hS ?_; (try simp only [Act.put, List.setIfInBounds_toArray, List.set_cons_zero, List.set_cons_succ])) | (refine walkS_row (some 89) rfl rfl 35 (.tmp 88) rfl (KM) rfl _ _ _ _ (fun w' h => HGM.out _ h) Tryz.underlying35 rfl (infoVF _ _ _ _ _ _ _) (fun _ _ _ h => h) (by rfl) ?_; (try simp only [Act.put, List.setIfInBounds_toArray, List.set_cons_zero, List.set_cons_succ]))
    first | (refine walkS_skip (some 85) rfl rfl (by rfl) (fun _ _ _ h => h) hS ?_; (try simp only [Act.put, List.setIfInBounds_toArray, List.set_cons_zero, List.set_cons_succ])) | (refine walkS_call 85 _ _ _ _ ((HLN.out _ hS)) rfl rfl rfl (by rfl) rfl (enter_lenP _ _) ?_; rintro e w' ⟨rfl, t⟩; have hS := hS.trans t (fun _ _ h => h); clear t; refine ⟨_, rfl, hS, fun hS => ?_⟩; (try simp only [Act.put, List.setIfInBounds_toArray, List.set_cons_zero, List.set_cons_succ]))
    first | (refine walkS_skip (some 90) rfl rfl (by rfl) (fun _ _ _ h => h) hS ?_; (try simp only [Act.put, List.setIfInBounds_toArray, List.set_cons_zero, List.set_cons_succ])) | (refine walkS_call 90 _ _ _ _ ((HRRC.out _ hS)) rfl rfl rfl (by rfl) rfl (enter_rrecsP _ _) ?_; rintro e w' ⟨r3, k3, rfl, o7, t7⟩; have hS := hS.trans t7 (fun _ _ h => h); clear o7 t7; refine ⟨_, rfl, hS, fun hS => ?_⟩; (try simp only [Act.put, List.setIfInBounds_toArray, List.set_cons_zero, List.set_cons_succ]))
    first | (refine walkS_skip (some 91) rfl rfl (by rfl) (fun _ _ _ h => h) hS ?_; (try simp only [Act.put, List.setIfInBounds_toArray, List.set_cons_zero, List.set_cons_succ])) | (refine walkS_take (v := ?_) (some 91) rfl rfl (fun _ _ _ h => h) (by rfl) ?_ ?_; rotate_left; (focus (intro w' hw'; go_simp; (try with_reducible rfl))); (try simp only [Act.put, List.setIfInBounds_toArray, List.set_cons_zero, List.set_cons_succ]))
    first | (refine walkS_skip (some 92) rfl rfl (by rfl) (fun _ _ _ h => h) hS ?_; (try simp only [Act.put, List.setIfInBounds_toArray, List.set_cons_zero, List.set_cons_succ])) | (refine walkS_take (v := ?_) (some 92) rfl rfl (fun _ _ _ h => h) (by rfl) ?_ ?_; rotate_left; (focus (intro w' hw'; go_simp; (try with_reducible rfl))); (try simp only [Act.put, List.setIfInBounds_toArray, List.set_cons_zero, List.set_cons_succ]))
    (refine walkS_take (v := ?_) (some 93) rfl rfl (fun _ _ _ h => h) (by rfl) ?_ ?_; rotate_left; (focus (intro w' hw'; go_simp; (try with_reducible rfl))); (try simp only [Act.put, List.setIfInBounds_toArray, List.set_cons_zero, List.set_cons_succ]))
    (refine walkS_take (v := ?_) (some 94) rfl rfl (fun _ _ _ h => h) (by rfl) ?_ ?_; rotate_left; (focus (intro w' hw'; go_simp; (try with_reducible rfl))); (try simp only [Act.put, List.setIfInBounds_toArray, List.set_cons_zero, List.set_cons_succ]))
    first | (refine walkS_skip (some 95) rfl rfl (by rfl) (fun _ _ _ h => h) hS ?_; (try simp only [Act.put, List.setIfInBounds_toArray, List.set_cons_zero, List.set_cons_succ])) | (refine walkS_call 95 _ _ _ _ (awake14 _) rfl rfl rfl (by rfl) rfl (enter_awakeOf _) ?_; rintro e w' ⟨rfl, t⟩; have hS := hS.trans t (fun _ _ h => h); clear t; refine ⟨_, rfl, hS, fun hS => ?_⟩; (try simp only [Act.put, List.setIfInBounds_toArray, List.set_cons_zero, List.set_cons_succ]))
    (refine walkS_take (v := ?_) (some 96) rfl rfl (fun _ _ _ h => h) (by rfl) ?_ ?_; rotate_left; (focus (intro w' hw'; go_simp; (try with_reducible rfl))); (try simp only [Act.put, List.setIfInBounds_toArray, List.set_cons_zero, List.set_cons_succ]))
    (refine walkS_take (v := ?_) (some 4) rfl rfl (fun _ _ _ h => h) (by rfl) ?_ ?_; rotate_left; (focus (intro w' hw'; go_simp; (try with_reducible rfl))); (try simp only [Act.put, List.setIfInBounds_toArray, List.set_cons_zero, List.set_cons_succ]))
    refine walkS_done ?_
    have HS9 := Lib.hid (HEND.out _ hS)
    clear hS
    go_wp2_with fail
    go_ret
    exact ⟨rfl, HS9.out⟩
theorem statePlays_holds : Rows.StatePlaysSaid := by
  refine statePlays.said fun H enc W base v0 v1 d0 d1 p0 p1 h0 h1 => ?_
  obtain ⟨a, c, l, rfl, hr, hok⟩ := h0.recsB
  obtain ⟨t, rfl, ot⟩ := h1.tupD
  exact (statePlays_walk W a c l hr hok t ot).mono fun e w' h => ⟨h.1, h.2.below (fun _ _ h => h.elim) (Nat.le_refl _)⟩
end Go.Proofs.YtdhimlkndpiacaaGreat
