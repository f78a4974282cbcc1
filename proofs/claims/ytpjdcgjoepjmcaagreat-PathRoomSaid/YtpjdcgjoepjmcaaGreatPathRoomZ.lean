/- PathRoom holds: as many flows as may be are pinned. -/
import Derived.Test.YtpjdcgjoepjmcaaGreatPathVZ
import Derived.Test.YtpjdcgjoepjmcaaGreatFrPathRoomZ
import Derived.Test.YtpjdcgjoepjmcaaGreatGFZ
set_option linter.unusedVariables false
set_option linter.unusedSimpArgs false
namespace Go.Proofs.YtpjdcgjoepjmcaaGreat
open Go.RowKit

theorem min_runR (a b : Int) (W : World) : (Builtin.min_ #[3, 3] 3 #[.int .i64 a, .int .i64 b]).run Tryz.prog W = .ok (.int .i64 (min a b)) W := by
  by_cases h : b < a
  · have e : min a b = b := by omega
    rw [e]
    go_simp
  · have e : min a b = a := by omega
    rw [e]
    go_simp
set_option maxRecDepth 20000 in
set_option maxHeartbeats 16000000 in
theorem room23_walk (x y : Int) (w : World) : Calls Tryz.prog 6 #[.int .i64 x, .int .i64 y] w fun e w' => e = .returned (.bool true) ∧ Touch w w' (fun _ => False) := by
  obtain ⟨m, hm, hm1⟩ := modN x 10 (by decide) (by decide)
  obtain ⟨N, hN, hN1⟩ := modN y 20 (by decide) (by decide)
  have HM0 := Lib.hid hm
  have HN0 := Lib.hid hN
  have HCFG := Lib.hid (fun W => config_any (m : Int) W)
  simp only [cfg23, cfgC] at HCFG
  clear hm hN
  go_enter Tryz.func6, Tryz.ntmps6
  go_upto_region 2 with (fail)
  rw [HM0.out, HN0.out]
  go_wp2_with fail
  refine (fnew_any w m 1000).mono ?_
  rintro e w0 ⟨g, h, rfl, q0, t0, f0⟩
  have q0' : FS w0 g h m 1000 [] := by
    have e1 : min (max (m : Int) 0) 256 = m := by omega
    have e2 : min (max (1000 : Int) 1) 1099511627776 = 1000 := by decide
    rw [e1, e2] at q0
    exact q0
  have N0 := Lib.hid (FN.mk q0' t0 f0)
  clear q0 q0' t0 f0
  go_wp2_with fail
  refine (new_any 13 w0 prm13).mono ?_
  rintro e w1 ⟨C, G0, rfl, hc, hC, hi, t1⟩
  have N1 := Lib.hid (N0.out.still t1)
  have HC := Lib.hid hc
  have HCw := Lib.hid hC
  have HCF : RowKit.Hid (¬ footF g h C) := Lib.hid (fun e => by have := N0.out.q.footlt _ e; omega)
  have HK : RowKit.Hid (RowK (w1.alloc (.cells #[.int .i64 1, .int .u32 1, .int .i64 1] 70)) (some ⟨w1.heap.size, 0, none⟩) 1 1 [bk1]) := Lib.hid
    ((OwnS.lit w1 w1.heap.size (Nat.le_refl _) 70 3 1 ([bk1].map BkD.cells) _ rfl rfl (by simp [bk1, BkD.cells]) (by omega)).row').2.1
  clear hi t1 hc hC
  go_wp2_with fail
  have t2 := (Touch.refl w1 (fun _ => False)).alloc (.cells #[.int .i64 1, .int .u32 1, .int .i64 1] 70)
  have hCl : C < w1.heap.size := heap_lt HC.out
  have N2 := Lib.hid (N1.out.still t2)
  refine (set_out 13 .nilFunc [bk1] C _ _ _ _ _ _ 0 _ 1 1 [bk1] _ prm13 (by omega) (t2.keeps HC.out (fun h => h)) HK.out gmay1 (fun x hx => .inr (fun h => by cases hx; simp at h; omega)) (fun W t => without_nil _ 1 1 [bk1] W (HK.out.touch t (fun _ _ => .inr (fun h => h))) (by omega))).mono ?_
  rintro e w3 ⟨rfl, a3, c3, G3, hc3, hk3, hi3, hb3, hG3, t3⟩
  have HPW : RowKit.Hid (PW w w3 g h m 1000 [] C 13 [bk1] (tabF [bk1] 13) a3 1 c3 G3 1) := Lib.hid (PW.made N2.out (by omega) (Nat.lt_of_lt_of_le hCl t2.size) HCF.out (Nat.le_trans N0.out.t.size HCw.out) t3 hc3 hk3 hi3 hb3 hG3)
  clear t2 t3 hc3 hk3 hi3 hb3 hG3 hCl HK HC N0 N1 N2 HCF HCw
  go_wp2_with fail
  go_loopw [29] (fun s29 wr => ∃ (k : Nat) (h : FH) (M : List FlD), k ≤ N ∧ s29 = .int .i64 k ∧ PW w wr g h m 1000 M C 13 [bk1] (tabF [bk1] 13) a3 1 c3 G3 1 ∧ RM M (min k m)) (fun s29 _ => N - (RowKit.intOf s29).toNat)
  case atStart => exact ⟨0, h, [], Nat.zero_le _, rfl, HPW.out, by rw [Nat.zero_min]; exact RM.zero⟩
  case round =>
    obtain ⟨k, h, M, hk, rfl, hq, hp⟩ := hrel
    have HQ := Lib.hid hq
    have HR := Lib.hid hp
    clear hq hp HPW
    by_cases hlt : k < N
    case pos =>
      have hlI : (k : Int) < N := by omega
      obtain ⟨k1, k2⟩ := room_step (i := k) HR.out rfl
      have HK2 := Lib.hid k2
      by_cases hkm : k < m
      · have hkI : (k : Int) < m := by omega
        rw [if_pos hkm] at k1
        have HK1 := Lib.hid k1
        clear k1 k2
        go_wp2_with fail
        (with_reducible refine (HCFG.out _).mono ?_)
        rintro e pa ⟨rfl, pta⟩
        have HQpa := Lib.hid (HQ.out.still pta)
        clear pta
        go_wp2_with fail
        refine (kclo_any k (by omega) _).mono ?_
        rintro e pb ⟨rfl, ptb⟩
        have HQpb := Lib.hid (HQpa.out.still ptb)
        have HMp := Lib.hid (madeN k (by omega) 0 (.inl rfl) pb)
        simp only [tcs, kN] at HMp ⊢
        clear ptb HQpa
        go_wp2_with fail
        refine HMp.out.mono ?_
        rintro e pc ⟨pma, pmc, rfl, pf⟩
        have HQpc := Lib.hid (HQpb.out.still pf.2)
        have hpp := pktN pc g h m M HQpc.out.f.q C a3 1 c3 G3 1 HQpc.out.c k (by omega) 0 pma pmc pf.row'.2 _ (flag0 k) [recF 1 (fN k)] _ HK1.out rfl
        simp only [cfg23, cfgC, planV, List.length_cons, List.length_nil, Nat.zero_add] at hpp
        have HPp := Lib.hid hpp
        clear pf hpp HQpb HMp
        go_wp2_with fail
        refine HPp.out.mono ?_
        rintro e pd ⟨ppa, ppn, ppc, pqa, pqc, rfl, prow, pnew, ps⟩
        obtain ⟨ph, pM, ppm, ppw, -⟩ := HQpc.out.step ps
        obtain ⟨pW, phW⟩ : ∃ W, pd.alloc (.cells (planV 2 0 1 (.slice ppa ppn ppc) (.slice pqa 1 pqc)) 53) = W := ⟨_, rfl⟩
        obtain ⟨A, phB⟩ : ∃ B, pd.heap.size = B := ⟨_, rfl⟩
        have pg : pW.heap[A]? = some (.cells (planV 2 0 1 (.slice ppa ppn ppc) (.slice pqa 1 pqc)) 53 (0, 0)) := phB ▸ phW ▸ heap_alloc_new ..
        have ptw : Touch pd pW (fun _ => False) := phW ▸ (Touch.refl pd _).alloc _
        have HQp := Lib.hid (ppw.still ptw)
        have HPMp := Lib.hid ppm
        have HROWp := Lib.hid (prow.touch ptw (fun _ _ => .inr (fun h => h)))
        have py0 : pW.cell? ⟨A, 0, none⟩ = some (.int .i64 2) := cell_of_cells pg 0
        have py4 : pW.cell? ⟨A, 4, none⟩ = some (.slice pqa 1 pqc) := cell_of_cells pg 4
        have HWp := Lib.hid phW
        have HBp := Lib.hid phB
        simp only [planV] at HWp
        clear prow pnew ps ppm ppw phW phB pg ptw HPp HQpc
        go_upto_region 10 with (fail)
        rw [HWp.out, HBp.out]
        have HX : RowKit.Hid (∃ (k' : Nat) (h' : FH) (M' : List FlD), k' ≤ N ∧ Value.int .i64 ((k : Int) + 1) = .int .i64 k' ∧ PW w pW g h' m 1000 M' C 13 [bk1] (tabF [bk1] 13) a3 1 c3 G3 1 ∧ RM M' (min k' m)) := Lib.hid ⟨k + 1, ph, pM, by omega, by go_num, HQp.out, RM.perm HPMp.out HK2.out⟩
        go_wp2_with fail
        go_roundw
        · exact HX.out
        · simp only [RowKit.intOf]; omega
      · have hkI : ¬ (k : Int) < m := by omega
        rw [if_neg hkm] at k1
        have HK1 := Lib.hid k1
        clear k1 k2
        go_wp2_with fail
        (with_reducible refine (HCFG.out _).mono ?_)
        rintro e pa ⟨rfl, pta⟩
        have HQpa := Lib.hid (HQ.out.still pta)
        clear pta
        go_wp2_with fail
        refine (kclo_any k (by omega) _).mono ?_
        rintro e pb ⟨rfl, ptb⟩
        have HQpb := Lib.hid (HQpa.out.still ptb)
        have HMp := Lib.hid (madeN k (by omega) 0 (.inl rfl) pb)
        simp only [tcs, kN] at HMp ⊢
        clear ptb HQpa
        go_wp2_with fail
        refine HMp.out.mono ?_
        rintro e pc ⟨pma, pmc, rfl, pf⟩
        have HQpc := Lib.hid (HQpb.out.still pf.2)
        have hpp := pktN pc g h m M HQpc.out.f.q C a3 1 c3 G3 1 HQpc.out.c k (by omega) 0 pma pmc pf.row'.2 _ (flag0 k) [] _ HK1.out rfl
        simp only [cfg23, cfgC, planV, List.length_cons, List.length_nil, Nat.zero_add] at hpp
        have HPp := Lib.hid hpp
        clear pf hpp HQpb HMp
        go_wp2_with fail
        refine HPp.out.mono ?_
        rintro e pd ⟨ppa, ppn, ppc, pqa, pqc, rfl, prow, pnew, ps⟩
        obtain ⟨ph, pM, ppm, ppw, -⟩ := HQpc.out.step ps
        obtain ⟨pW, phW⟩ : ∃ W, pd.alloc (.cells (planV 2 0 1 (.slice ppa ppn ppc) (.slice pqa 0 pqc)) 53) = W := ⟨_, rfl⟩
        obtain ⟨A, phB⟩ : ∃ B, pd.heap.size = B := ⟨_, rfl⟩
        have pg : pW.heap[A]? = some (.cells (planV 2 0 1 (.slice ppa ppn ppc) (.slice pqa 0 pqc)) 53 (0, 0)) := phB ▸ phW ▸ heap_alloc_new ..
        have ptw : Touch pd pW (fun _ => False) := phW ▸ (Touch.refl pd _).alloc _
        have HQp := Lib.hid (ppw.still ptw)
        have HPMp := Lib.hid ppm
        have HROWp := Lib.hid (prow.touch ptw (fun _ _ => .inr (fun h => h)))
        have py0 : pW.cell? ⟨A, 0, none⟩ = some (.int .i64 2) := cell_of_cells pg 0
        have py4 : pW.cell? ⟨A, 4, none⟩ = some (.slice pqa 0 pqc) := cell_of_cells pg 4
        have HWp := Lib.hid phW
        have HBp := Lib.hid phB
        simp only [planV] at HWp
        clear prow pnew ps ppm ppw phW phB pg ptw HPp HQpc
        go_upto_region 10 with (fail)
        rw [HWp.out, HBp.out]
        have HX : RowKit.Hid (∃ (k' : Nat) (h' : FH) (M' : List FlD), k' ≤ N ∧ Value.int .i64 ((k : Int) + 1) = .int .i64 k' ∧ PW w pW g h' m 1000 M' C 13 [bk1] (tabF [bk1] 13) a3 1 c3 G3 1 ∧ RM M' (min k' m)) := Lib.hid ⟨k + 1, ph, pM, by omega, by go_num, HQp.out, RM.perm HPMp.out HK2.out⟩
        go_wp2_with fail
        go_roundw
        · exact HX.out
        · simp only [RowKit.intOf]; omega
    case neg =>
      obtain rfl : N = k := by omega
      have hlI : ¬ (N : Int) < N := by omega
      by_cases hz : N = 0 ∨ m = 0
      · have hl : M.length = 0 := by rw [HR.out.len]; omega
        have hlen := flen_any wr g h m 1000 M HQ.out.f.q
        rw [hl] at hlen
        have HL := Lib.hid hlen
        clear hlen hl
        by_cases hn0 : N = 0
        · have hI : (N : Int) = 0 := by omega
          have hI2 : ((N : Int) == 0) = true := by simpa using hI
          go_wp2_with (go_at_call 32; (with_reducible refine HL.out.mono ?_); rintro e w2 ⟨rfl, rfl⟩)
          refine (awake23 wr).mono ?_
          rintro e w7 ⟨rfl, t7⟩
          have HT7 := Lib.hid (HQ.out.f.t.trans t7 (fun _ _ h => h))
          clear t7
          go_wp2_with fail
          go_ret
          exact ⟨rfl, HT7.out⟩
        · have hI : ¬ (N : Int) = 0 := by omega
          have hJ : (m : Int) = 0 := by omega
          have hI2 : ((N : Int) == 0) = false := by simpa using hI
          have hJ2 : ((m : Int) == 0) = true := by simpa using hJ
          go_wp2_with (go_at_call 32; (with_reducible refine HL.out.mono ?_); rintro e w2 ⟨rfl, rfl⟩)
          refine (awake23 wr).mono ?_
          rintro e w7 ⟨rfl, t7⟩
          have HT7 := Lib.hid (HQ.out.f.t.trans t7 (fun _ _ h => h))
          clear t7
          go_wp2_with fail
          go_ret
          exact ⟨rfl, HT7.out⟩
      · have hI : ¬ (N : Int) = 0 := by omega
        have hJ : ¬ (m : Int) = 0 := by omega
        have hI2 : ((N : Int) == 0) = false := by simpa using hI
        have hJ2 : ((m : Int) == 0) = false := by simpa using hJ
        obtain ⟨k1, k2, k3⟩ := room_end (m := m) HR.out (by omega) (by omega) HQ.out.f.q.nd
        have HK1 := Lib.hid k1
        have HK2 := Lib.hid k2
        have HK3 := Lib.hid k3
        clear k1 k2 k3
        go_wp2_with fail
        (with_reducible refine (HCFG.out _).mono ?_)
        rintro e pa ⟨rfl, pta⟩
        have HQpa := Lib.hid (HQ.out.still pta)
        clear pta
        go_wp2_with fail
        refine (kclo_any 0 (by decide) _).mono ?_
        rintro e pb ⟨rfl, ptb⟩
        have HQpb := Lib.hid (HQpa.out.still ptb)
        have HMp := Lib.hid (madeN 0 (by decide) 1 (.inr rfl) pb)
        simp only [tcs, kN] at HMp ⊢
        clear ptb HQpa
        go_wp2_with fail
        refine HMp.out.mono ?_
        rintro e pc ⟨pma, pmc, rfl, pf⟩
        have HQpc := Lib.hid (HQpb.out.still pf.2)
        have hpp := pktN pc g h m M HQpc.out.f.q C a3 1 c3 G3 1 HQpc.out.c 0 (by decide) 1 pma pmc pf.row'.2 _ (flag1 0) [recF 2 ⟨kN 0, 0, 0, 0⟩] _ HK1.out rfl
        simp only [cfg23, cfgC, planV, List.length_cons, List.length_nil, Nat.zero_add] at hpp
        have HPp := Lib.hid hpp
        clear pf hpp HQpb HMp
        go_wp2_with fail
        refine HPp.out.mono ?_
        rintro e pd ⟨ppa, ppn, ppc, pqa, pqc, rfl, prow, pnew, ps⟩
        obtain ⟨ph, pM, ppm, ppw, -⟩ := HQpc.out.step ps
        obtain ⟨pW, phW⟩ : ∃ W, pd.alloc (.cells (planV 2 0 1 (.slice ppa ppn ppc) (.slice pqa 1 pqc)) 53) = W := ⟨_, rfl⟩
        obtain ⟨A, phB⟩ : ∃ B, pd.heap.size = B := ⟨_, rfl⟩
        have pg : pW.heap[A]? = some (.cells (planV 2 0 1 (.slice ppa ppn ppc) (.slice pqa 1 pqc)) 53 (0, 0)) := phB ▸ phW ▸ heap_alloc_new ..
        have ptw : Touch pd pW (fun _ => False) := phW ▸ (Touch.refl pd _).alloc _
        have HQp := Lib.hid (ppw.still ptw)
        have HPMp := Lib.hid ppm
        have HROWp := Lib.hid (prow.touch ptw (fun _ _ => .inr (fun h => h)))
        have py0 : pW.cell? ⟨A, 0, none⟩ = some (.int .i64 2) := cell_of_cells pg 0
        have py4 : pW.cell? ⟨A, 4, none⟩ = some (.slice pqa 1 pqc) := cell_of_cells pg 4
        have HWp := Lib.hid phW
        have HBp := Lib.hid phB
        simp only [planV] at HWp
        clear prow pnew ps ppm ppw phW phB pg ptw HPp HQpc
        go_upto_region 16 with (fail)
        rw [HWp.out, HBp.out]
        obtain ⟨e, he⟩ : ∃ e, min N m = e + 1 := ⟨min N m - 1, by omega⟩
        have hlen := flen_any pW g ph m 1000 pM HQp.out.f.q
        have hpl : pM.length = e := by have := HPMp.out.length_eq.trans HK2.out; omega
        rw [hpl] at hlen
        have HL := Lib.hid hlen
        have hmn := fun W => min_runR (N : Int) (m : Int) W
        rw [show min (N : Int) (m : Int) = (e : Int) + 1 by omega] at hmn
        have he9 : (e : Int) ≤ 9 := by omega
        have HL99 : RowKit.Hid (keepR pM m (fN 99) false = [recF 1 (fN 99)]) := Lib.hid (room_last ((hasF_perm HPMp.out _).trans HK3.out) (by omega))
        obtain ⟨pb, po, rfl⟩ := HROWp.out.some (by decide)
        have pr : pW.cell? ⟨pb, po, none⟩ = some (.int .i64 2) := by
          have := HROWp.out.cell 0 (by decide) 0 (.int .i64 2) rfl
          simpa using this
        have HQ := HQp
        clear hlen hpl he
        go_upto_region 18 with (go_at_call 32; (with_reducible refine HL.out.mono ?_); rintro e w2 ⟨rfl, rfl⟩)
        clear hmn pr py0 py4
        go_wp2_with fail
        (with_reducible refine (HCFG.out _).mono ?_)
        rintro e qa ⟨rfl, qta⟩
        have HQqa := Lib.hid (HQ.out.still qta)
        clear qta
        go_wp2_with fail
        refine (kclo_any 99 (by decide) _).mono ?_
        rintro e qb ⟨rfl, qtb⟩
        have HQqb := Lib.hid (HQqa.out.still qtb)
        have HMq := Lib.hid (madeN 99 (by decide) 0 (.inl rfl) qb)
        simp only [tcs, kN] at HMq ⊢
        clear qtb HQqa
        go_wp2_with fail
        refine HMq.out.mono ?_
        rintro e qc ⟨qma, qmc, rfl, qf⟩
        have HQqc := Lib.hid (HQqb.out.still qf.2)
        have hpq := pktN qc g ph m pM HQqc.out.f.q C a3 1 c3 G3 1 HQqc.out.c 99 (by decide) 0 qma qmc qf.row'.2 _ (flag0 99) [recF 1 (fN 99)] _ HL99.out rfl
        simp only [cfg23, cfgC, planV, List.length_cons, List.length_nil, Nat.zero_add] at hpq
        have HPq := Lib.hid hpq
        clear qf hpq HQqb HMq
        go_wp2_with fail
        refine HPq.out.mono ?_
        rintro e qd ⟨qpa, qpn, qpc, qqa, qqc, rfl, qrow, qnew, qs⟩
        obtain ⟨qh, qM, qpm, qpw, -⟩ := HQqc.out.step qs
        obtain ⟨qW, qhW⟩ : ∃ W, qd.alloc (.cells (planV 2 0 1 (.slice qpa qpn qpc) (.slice qqa 1 qqc)) 53) = W := ⟨_, rfl⟩
        obtain ⟨A2, qhB⟩ : ∃ B, qd.heap.size = B := ⟨_, rfl⟩
        have qg : qW.heap[A2]? = some (.cells (planV 2 0 1 (.slice qpa qpn qpc) (.slice qqa 1 qqc)) 53 (0, 0)) := qhB ▸ qhW ▸ heap_alloc_new ..
        have qtw : Touch qd qW (fun _ => False) := qhW ▸ (Touch.refl qd _).alloc _
        have HQq := Lib.hid (qpw.still qtw)
        have HPMq := Lib.hid qpm
        have HROWq := Lib.hid (qrow.touch qtw (fun _ _ => .inr (fun h => h)))
        have qy0 : qW.cell? ⟨A2, 0, none⟩ = some (.int .i64 2) := cell_of_cells qg 0
        have qy4 : qW.cell? ⟨A2, 4, none⟩ = some (.slice qqa 1 qqc) := cell_of_cells qg 4
        have HWq := Lib.hid qhW
        have HBq := Lib.hid qhB
        simp only [planV] at HWq
        clear qrow qnew qs qpm qpw qhW qhB qg qtw HPq HQqc
        go_upto_region 19 with (fail)
        rw [HWq.out, HBq.out]
        obtain ⟨qb, qo, rfl⟩ := HROWq.out.some (by decide)
        have qr : qW.cell? ⟨qb, qo, none⟩ = some (.int .i64 1) := by
          have := HROWq.out.cell 0 (by decide) 0 (.int .i64 1) rfl
          simpa using this
        go_wp2_with (go_at_call 25; (with_reducible refine (awake23 _).mono ?_); rintro e w9 ⟨rfl, t9⟩; have HT9 := Lib.hid (HQq.out.f.t.trans t9 (fun _ _ h => h)); clear t9)
        go_ret
        exact ⟨rfl, HT9.out⟩
theorem pathRoom_holds : Rows.PathRoomSaid := by
  refine pathRoom.said fun H enc W base v0 v1 d0 d1 p0 p1 h0 h1 => ?_
  obtain ⟨a, rfl, _⟩ := h0.i64 Tryz.underlying3
  obtain ⟨b, rfl, _⟩ := h1.i64 Tryz.underlying3
  exact (room23_walk a b W).mono fun e w' h => ⟨h.1, h.2.below (fun _ _ h => h.elim) (Nat.le_refl _)⟩
end Go.Proofs.YtpjdcgjoepjmcaaGreat
