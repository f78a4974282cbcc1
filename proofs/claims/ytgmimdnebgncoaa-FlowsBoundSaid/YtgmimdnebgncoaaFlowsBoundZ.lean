/- FlowsBound answers true for any numbers and any calls. -/
import Derived.Test.YtgmimdnebgncoaaGNZ
import Derived.Test.YtgmimdnebgncoaaFrFlowsBoundZ
import Derived.Deep.DeepCutAuto
set_option linter.unusedVariables false
set_option linter.unusedSimpArgs false
namespace Go.Proofs.Ytgmimdnebgncoaa
open Go.RowKit

theorem tup_ne {a b : TupD} (h : a ≠ b) : ¬ (a.src = b.src ∧ a.dst = b.dst ∧ a.proto = b.proto ∧ a.sport = b.sport ∧ a.dport = b.dport) := fun e => h (by
  obtain ⟨a1, a2, a3, a4, a5⟩ := a
  obtain ⟨b1, b2, b3, b4, b5⟩ := b
  simp only at e
  obtain ⟨rfl, rfl, rfl, rfl, rfl⟩ := e
  rfl)
/-- The tuple's source turned by one. -/
def nextT (t : TupD) : TupD := ⟨(t.src + 1) % 4294967296, t.dst, t.proto, t.sport, t.dport⟩
theorem nextT_ne (t : TupD) (ok : TupOk t) : nextT t ≠ t := by
  intro e
  have h := congrArg TupD.src e
  have h1 := ok.src
  unfold nextT at h
  simp only at h
  omega
theorem nextT_ok (t : TupD) (ok : TupOk t) : TupOk (nextT t) := by
  refine ⟨?_, ok.dst, ok.proto, ok.sport, ok.dport⟩
  unfold nextT
  constructor <;> simp only <;> omega
set_option maxRecDepth 20000 in
set_option maxHeartbeats 24000000 in
theorem bound11_walk (w : World) (most idle : Int) (a0 : Option Addr) (cap : Nat) (l : List CallF) (hr : RowS w a0 l.length cap 10 (l.map CallF.cells)) (hok : ∀ c ∈ l, CallFOk c) :
    Calls Try.prog 5 #[.int .i64 most, .int .i64 idle, .slice a0 l.length cap] w fun e w' => e = .returned (.bool true) ∧ Below w.heap.size w w' := by
  obtain ⟨n, hn⟩ : ∃ n, l.length = n := ⟨_, rfl⟩
  rw [hn] at hr ⊢
  have hcap := hr.hcap
  have hmax := hr.hmax
  have HR := Lib.hid hr
  have HOK := Lib.hid hok
  obtain ⟨T, hT, hT0, hT1⟩ := modJ most 20 (by decide) (by decide)
  obtain ⟨J1, hJ1, hJ2, hJ3⟩ := modJ idle 50 (by decide) (by decide)
  obtain ⟨J, hJ, hJ0, hJ4⟩ : ∃ J : Int, wrap64 (J1 + 1) = J ∧ 1 ≤ J ∧ J ≤ 50 := ⟨J1 + 1, by unfold wrap64; omega, by omega, by omega⟩
  have HT := Lib.hid hT
  have HJ1 := Lib.hid hJ1
  have HJ := Lib.hid hJ
  clear hr hok hT hJ hJ1
  go_enter Try.func5, Try.ntmps5
  go_upto_region 2 with (fail)
  rw [HT.out, HJ1.out, HJ.out]
  go_wp2_with fail
  refine (fnew_any w T J).mono ?_
  rintro e w0 ⟨g, h, rfl, q0, t0, f0⟩
  rw [show min (max T 0) 256 = T by omega, show min (max J 1) 1099511627776 = J by omega] at q0
  have N0 := Lib.hid (FN.mk q0 t0 f0)
  clear q0 t0 f0
  go_wp2_with fail
  refine (flow_any w0 77 100 (by decide) (by decide)).mono ?_
  rintro e w1 ⟨rfl, t1⟩
  have N1 := Lib.hid (N0.out.still t1)
  clear t1 N0
  obtain ⟨o, er, hpe, heo, hst⟩ := bound_start (T := T) (J := J) hT0 hJ0
  have hkok := flN_ok 77 100 (by decide) (by decide)
  obtain ⟨kf, hkf⟩ : ∃ kf, flN 77 100 = kf := ⟨_, rfl⟩
  rw [hkf] at hpe hst hkok ⊢
  have HK := Lib.hid hkok
  have HST := Lib.hid hst
  have HKF := Lib.hid hkf
  obtain ⟨w2, hw2⟩ : ∃ W, w1.alloc (.cells (fca kf) 26) = W := ⟨_, rfl⟩
  have t2 : Touch w1 w2 (fun _ => False) := hw2 ▸ (Touch.refl w1 _).alloc _
  have g2 : w2.heap[w1.heap.size]? = some (.cells (fca kf) 26 (0, 0)) := hw2 ▸ heap_alloc_new ..
  obtain ⟨bk, hbk⟩ : ∃ b, w1.heap.size = b := ⟨_, rfl⟩
  rw [hbk] at g2
  have N2 := Lib.hid (N1.out.still t2)
  have HBK : RowKit.Hid (w.heap.size ≤ bk ∧ ¬ footF g h bk) := Lib.hid ⟨hbk ▸ N1.out.t.size, fun hf => by have := N1.out.q.footlt bk hf; omega⟩
  have HG2 := Lib.hid g2
  have HW2 := Lib.hid hw2
  have HBK0 := Lib.hid hbk
  have hpu := fput_any w2 g h T J [] N2.out.q kf HK.out
  rw [hpe] at hpu
  have HPU := Lib.hid hpu
  have HEO := Lib.hid heo
  obtain ⟨x0, x1, x2, x3, x4, x5, x6, x7⟩ := fcells_of g2
  clear hkok hkf hst t2 g2 hw2 hbk hpe hpu heo N1
  simp only [fca] at HW2 HPU ⊢
  go_upto_region 5 with (fail)
  rw [HW2.out, HBK0.out]
  go_wp2_with fail
  (with_reducible refine HPU.out.mono ?_)
  rintro e w3 ⟨rfl, s3⟩
  obtain ⟨h3, M3, p3, n3, f3, t3⟩ := N2.out.step s3
  have HB3 := Lib.hid (HST.out M3 p3)
  have HG3 := Lib.hid (t3.keeps HG2.out HBK.out.2)
  have HBK3 : RowKit.Hid (w.heap.size ≤ bk ∧ ¬ footF g h3 bk) := Lib.hid ⟨HBK.out.1, fun hf => (f3 bk hf).elim HBK.out.2 (fun h5 => by have := heap_lt HG2.out; omega)⟩
  have HN3 := Lib.hid n3
  obtain ⟨b0, hb0⟩ : ∃ b0, decide (0 < T) = b0 := ⟨_, rfl⟩
  have hB0 : decide (T > 0) = b0 := hb0
  have HB0 := Lib.hid hb0
  have heo := HEO.out
  rw [hb0] at heo
  clear s3 p3 n3 f3 t3 hb0 x0 x1 x2 x3 x4 x5 x6 x7 N2 HBK HG2 HST HPU
  go_wp2_with fail
  go_loopw [8, 48] (fun s8 s48 wr => ∃ (i : Nat) (N : Int) (h : FH) (M : List FlD), i ≤ n ∧ i ≤ 100 ∧ s48 = .int .i64 i ∧ s8 = .int .i64 N ∧ 100 ≤ N ∧ N ≤ 100 + 50 * (i : Int) ∧ FN w wr g h T J M ∧ BInv T J kf.t N M ∧ wr.heap[bk]? = some (.cells (fca kf) 26 (0, 0)) ∧ ¬ footF g h bk) (fun _ s48 _ => n - (RowKit.intOf s48).toNat)
  case atStart => exact ⟨0, 100, h3, M3, Nat.zero_le _, Nat.zero_le _, rfl, rfl, by decide, by decide, HN3.out, HB3.out, HG3.out, HBK3.out.2⟩
  case round =>
    clear HN3 HB3 HG3 HBK3 heo HEO HKF
    obtain ⟨i, N, h, M, hin, hi100, rfl, rfl, hN0, hN1, hq, hbi, hgk, hnb⟩ := hrel
    have HQX := Lib.hid hq
    have HBI := Lib.hid hbi
    have HGX := Lib.hid hgk
    have HNB := Lib.hid hnb
    clear hq hbi hgk hnb
    by_cases hlt : i < n
    case neg =>
      obtain rfl : n = i := by omega
      obtain ⟨x0, x1, x2, x3, x4, x5, x6, x7⟩ := fcells_of HGX.out
      have hge := fget_any wr g h T J M HQX.out.q kf.t HK.out
      rw [HBI.out.hasF hT0, HB0.out] at hge
      obtain ⟨gg, hgg⟩ : ∃ x, getF M kf.t = x := ⟨_, rfl⟩
      rw [hgg] at hge
      have HGE := Lib.hid hge
      simp only [tcs, fca] at HGE
      clear hge hgg
      go_wp2_with fail
      (with_reducible refine HGE.out.mono ?_)
      rintro e w9 ⟨rfl, t9⟩
      have HT9 := Lib.hid (HQX.out.t.trans t9 (fun _ _ h => h))
      clear t9 x0 x1 x2 x3 x4 x5 x6 x7
      go_wp2_with fail
      refine (awake11 _).mono ?_
      rintro e w10 ⟨rfl, t10⟩
      have HT10 := Lib.hid ((HT9.out.alloc _).trans t10 (fun _ _ h => h))
      clear t10
      go_wp2_with fail
      go_ret
      exact ⟨rfl, HT10.out.below (fun _ _ h => h.elim) (Nat.le_refl _)⟩
    case pos =>
      have HRX := Lib.hid (HR.out.still HQX.out.t)
      obtain ⟨gr, off, rfl⟩ := HRX.out.some (by omega)
      have hcc := callF_cells HRX.out i (by omega)
      have hcok := HOK.out _ (gcF_mem l i (by omega))
      obtain ⟨cc, hcceq⟩ : ∃ c, gcF l i = c := ⟨_, rfl⟩
      rw [hcceq] at hcc hcok
      have d0 := hcc 0 _ rfl
      have d1 := hcc 1 _ rfl
      have d2 := hcc 2 _ rfl
      have d3 := hcc 3 _ rfl
      have d4 := hcc 4 _ rfl
      have d5 := hcc 5 _ rfl
      have d6 := hcc 6 _ rfl
      have d7 := hcc 7 _ rfl
      have d8 := hcc 8 _ rfl
      have d9 := hcc 9 _ rfl
      rw [Nat.add_zero] at d0
      obtain ⟨W2, hW2⟩ : ∃ W, wr.alloc (.cells cc.arr 49) = W := ⟨_, rfl⟩
      have t2 : Touch wr W2 (fun _ => False) := hW2 ▸ (Touch.refl wr _).alloc _
      have g2 : W2.heap[wr.heap.size]? = some (.cells cc.arr 49 (0, 0)) := hW2 ▸ heap_alloc_new ..
      obtain ⟨bc, hbc⟩ : ∃ b, wr.heap.size = b := ⟨_, rfl⟩
      rw [hbc] at g2
      have HBC : RowKit.Hid (¬ footF g h bc ∧ bc < W2.heap.size) := Lib.hid ⟨fun hf => by have := HQX.out.q.footlt bc hf; omega, heap_lt g2⟩
      have HBC0 := Lib.hid hbc
      have HQ2 := Lib.hid (HQX.out.still t2)
      have HGC := Lib.hid g2
      have HGK := Lib.hid (t2.keeps HGX.out (fun h => h))
      have HW2 := Lib.hid hW2
      have HCOK := Lib.hid hcok
      have hlI : (i : Int) < n := by omega
      have HEND : RowKit.Hid (∀ W N2 h' M', i < 100 → N ≤ N2 → N2 ≤ N + 50 → FN w W g h' T J M' → BInv T J kf.t N2 M' → W.heap[bk]? = some (.cells (fca kf) 26 (0, 0)) → ¬ footF g h' bk → ∃ (i' : Nat) (N' : Int) (h : FH) (M : List FlD), i' ≤ n ∧ i' ≤ 100 ∧ Value.int .i64 ((i : Int) + 1) = .int .i64 i' ∧ Value.int .i64 N2 = .int .i64 N' ∧ 100 ≤ N' ∧ N' ≤ 100 + 50 * (i' : Int) ∧ FN w W g h T J M ∧ BInv T J kf.t N' M ∧ W.heap[bk]? = some (.cells (fca kf) 26 (0, 0)) ∧ ¬ footF g h bk) := Lib.hid (fun W N2 h' M' h0 h1 h2 q b gk nf => ⟨i + 1, N2, h', M', by omega, by omega, by go_num, rfl, by omega, by omega, q, b, gk, nf⟩)
      clear t2 g2 hW2 hbc hcok hcc hcceq
      simp only [CallF.arr] at HW2
      go_upto_region 11 with (fail)
      rw [HW2.out, HBC0.out]
      clear d0 d1 d2 d3 d4 d5 d6 d7 d8 d9
      by_cases h100 : i < 100
      case neg =>
        have h100' : 100 ≤ (i : Int) := by omega
        have HGX := HGK
        have HQX := HQ2
        obtain ⟨x0, x1, x2, x3, x4, x5, x6, x7⟩ := fcells_of HGX.out
        have hge := fget_any W2 g h T J M HQX.out.q kf.t HK.out
        rw [HBI.out.hasF hT0, HB0.out] at hge
        obtain ⟨gg, hgg⟩ : ∃ x, getF M kf.t = x := ⟨_, rfl⟩
        rw [hgg] at hge
        have HGE := Lib.hid hge
        simp only [tcs, fca] at HGE
        clear hge hgg
        go_wp2_with fail
        (with_reducible refine HGE.out.mono ?_)
        rintro e w9 ⟨rfl, t9⟩
        have HT9 := Lib.hid (HQX.out.t.trans t9 (fun _ _ h => h))
        clear t9 x0 x1 x2 x3 x4 x5 x6 x7
        go_wp2_with fail
        refine (awake11 _).mono ?_
        rintro e w10 ⟨rfl, t10⟩
        have HT10 := Lib.hid ((HT9.out.alloc _).trans t10 (fun _ _ h => h))
        clear t10
        go_wp2_with fail
        go_ret
        exact ⟨rfl, HT10.out.below (fun _ _ h => h.elim) (Nat.le_refl _)⟩
      case pos =>
        have h100' : ¬ 100 ≤ (i : Int) := by omega
        obtain ⟨r, hr, hr0, hr1⟩ := modJ cc.now J hJ0 hJ4
        have hJu : IntKind.u64.wrap J = J := by rw [IntKind.wrap_u64]; omega
        obtain ⟨N2, hN2⟩ : ∃ N2, N + r = N2 := ⟨_, rfl⟩
        have HRR := Lib.hid hr
        have HNN := Lib.hid hN2
        have n2a : N ≤ N2 := by omega
        have n2b : N2 ≤ N + 50 := by omega
        have n2c : N2 ≤ 5200 := by omega
        have hwn : wrap64 (N + r) = N + r := by unfold wrap64; omega
        have z9 : W2.cell? ⟨bc, 9, none⟩ = some (.int .i64 cc.now) := cell_of_cells HGC.out 9
        obtain ⟨x0, x1, x2, x3, x4, x5, x6, x7⟩ := fcells_of HGK.out
        have HTC := Lib.hid (ftouch_any W2 g h T J M HQ2.out.q kf.t HK.out N2)
        simp only [tcs] at HTC
        clear hr hN2
        go_upto_region 13 with (fail)
        rw [HRR.out]
        (try rw [hwn])
        rw [HNN.out]
        clear hwn z9
        go_wp2_with fail
        (with_reducible refine HTC.out.mono ?_)
        rintro e w5 ⟨rfl, s5⟩
        obtain ⟨h5, M5, p5, n5, f5, t5⟩ := HQ2.out.step s5
        obtain ⟨ty, th, tn⟩ := HBI.out.touched HQX.out.q.map.nd hT0 n2a ((timB_iff _).2 (by omega)) p5
        obtain ⟨ib, ib2⟩ := bound_idle n5.q.map.nd n5.q.asc (now' := N2) (J := J) (by omega) th tn hT0
        have HIB := Lib.hid ib
        have HBI6 := Lib.hid ib2
        have HN5 := Lib.hid n5
        have HGC5 := Lib.hid (t5.keeps HGC.out HBC.out.1)
        have HGK5 := Lib.hid (t5.keeps HGK.out HNB.out)
        have HNF5 : RowKit.Hid (¬ footF g h5 bc ∧ ¬ footF g h5 bk) := Lib.hid ⟨fun hf => (f5 bc hf).elim HBC.out.1 (fun h9 => by have := HBC.out.2; omega), fun hf => (f5 bk hf).elim HNB.out (fun h9 => by have := heap_lt HGK.out; omega)⟩
        have HID := Lib.hid (fidle_any w5 g h5 T J M5 n5.q N2 ⟨by omega, by omega⟩)
        clear s5 p5 n5 f5 t5 ty th tn ib ib2 x0 x1 x2 x3 x4 x5 x6 x7
        go_wp2_with fail
        (with_reducible refine HID.out.mono ?_)
        rintro e w6 ⟨v6, rfl, s6⟩
        obtain ⟨a6, c6, h6, rfl, ho6, hd6, n6, f6, t6⟩ := HN5.out.gone s6
        have hrw := ho6.row'.2.1
        obtain ⟨A, hA⟩ : ∃ A, idleA M5 J N2 = A := ⟨_, rfl⟩
        rw [hA] at hrw ⊢
        have hAM : ∀ x ∈ A, x ∈ M5 := fun x hx => by
          rw [← hA] at hx
          unfold idleA at hx
          split at hx
          · cases hx
          · exact gone_sub x hx
        have hAl : A.length ≤ 256 := by
          rw [← hA]
          unfold idleA
          split
          · exact Nat.zero_le _
          · exact Nat.le_trans (List.takeWhile_sublist _).length_le HN5.out.q.small
        have HIA : RowKit.Hid (∀ x ∈ A, x.t ≠ kf.t ∧ x.fs + J ≤ N2 ∧ 0 ≤ x.fs) := Lib.hid (fun x hx => ⟨(HIB.out x (hA ▸ hx)).1, (HIB.out x (hA ▸ hx)).2, (may_rng (HN5.out.q.ok x (hAM x hx)).2).1⟩)
        obtain ⟨m, hm⟩ : ∃ m, A.length = m := ⟨_, rfl⟩
        rw [hm] at hrw hAl ⊢
        have hcp := hrw.hcap
        have hmx := hrw.hmax
        have HRW := Lib.hid hrw
        have HM := Lib.hid hm
        have HN6 := Lib.hid n6
        have HGC6 := Lib.hid (t6.keeps HGC5.out HNF5.out.1)
        have HGK6 := Lib.hid (t6.keeps HGK5.out HNF5.out.2)
        have HNK6 : RowKit.Hid (¬ footF g h6 bk) := Lib.hid (fun hf => (f6 bk hf).elim HNF5.out.2 (fun h9 => by have := heap_lt HGK5.out; omega))
        clear s6 ho6 hd6 n6 f6 t6 hA hAM hm hrw
        go_wp2_with fail
        go_loopw [73] (fun s73 wr => ∃ j : Nat, j ≤ m ∧ s73 = .int .i64 j ∧ Touch w6 wr (fun _ => False)) (fun s73 _ => m - (RowKit.intOf s73).toNat)
        case atStart => exact ⟨0, Nat.zero_le _, rfl, Touch.refl _ _⟩
        case round =>
          obtain ⟨j, hjm, rfl, htj⟩ := hrel
          have HTJ := Lib.hid htj
          clear htj
          by_cases hlj : j < m
          case pos =>
            have HRX6 := Lib.hid (HRW.out.still HTJ.out)
            obtain ⟨B, off6, rfl⟩ := HRX6.out.some (by omega)
            obtain ⟨d0, d1, d2, d3, d4, d5, d6, d7⟩ := flow_cells HRX6.out j (by rw [HM.out]; exact hlj)
            obtain ⟨y, hy⟩ : ∃ y, gf A j = y := ⟨_, rfl⟩
            rw [hy] at d0 d1 d2 d3 d4 d5 d6 d7
            obtain ⟨hyt, hys, hy0⟩ := HIA.out y (by rw [← hy]; exact gf_mem A j (by rw [HM.out]; exact hlj))
            obtain ⟨W7, hW7⟩ : ∃ W, wr.alloc (.cells (fca y) 26) = W := ⟨_, rfl⟩
            have t7 : Touch wr W7 (fun _ => False) := hW7 ▸ (Touch.refl wr _).alloc _
            have g7 : W7.heap[wr.heap.size]? = some (.cells (fca y) 26 (0, 0)) := hW7 ▸ heap_alloc_new ..
            obtain ⟨y0, y1, y2, y3, y4, y5, y6, y7⟩ := fcells_of g7
            obtain ⟨x0, x1, x2, x3, x4, x5, x6, x7⟩ := fcells_of ((HTJ.out.trans t7 (fun _ _ h => h)).keeps HGK6.out (fun h => h))
            have HT7 := Lib.hid (HTJ.out.trans t7 (fun _ _ h => h))
            have HW7 := Lib.hid hW7
            have hjI : (j : Int) < m := by omega
            have hne := tup_ne hyt
            have hyn : ¬ (N2 < y.fs + J) := by omega
            have hyb : y.fs ≤ 5200 := by omega
            clear t7 g7 hW7 hy hyt
            simp only [fca] at HW7
            go_upto_region 17 with (fail)
            rw [HW7.out]
            clear d0 d1 d2 d3 d4 d5 d6 d7
            go_cut [89] (fun s89 wx => s89 = .bool false ∧ wx = W7)
            case first =>
              go_wp2_with fail
              all_goals first
                | (go_meet; exact ⟨rfl, rfl⟩)
                | (exfalso; apply hne; simp_all)
            case rest =>
              obtain ⟨rfl, rfl⟩ := hcut
              go_wp2_with fail
              go_roundw
              · exact ⟨j + 1, by omega, by go_num, HT7.out⟩
              · simp only [RowKit.intOf]; omega
          case neg =>
            obtain rfl : m = j := by omega
            have g2 := HTJ.out.keeps HGC6.out (fun h => h)
            have k1 : wr.cell? ⟨bc, 1, none⟩ = some (.int .u32 cc.f.t.src) := cell_of_cells g2 1
            have k2 : wr.cell? ⟨bc, 2, none⟩ = some (.int .u32 cc.f.t.dst) := cell_of_cells g2 2
            have k3 : wr.cell? ⟨bc, 3, none⟩ = some (.int .i64 cc.f.t.proto) := cell_of_cells g2 3
            have k4 : wr.cell? ⟨bc, 4, none⟩ = some (.int .i64 cc.f.t.sport) := cell_of_cells g2 4
            have k5 : wr.cell? ⟨bc, 5, none⟩ = some (.int .i64 cc.f.t.dport) := cell_of_cells g2 5
            have k6 : wr.cell? ⟨bc, 6, none⟩ = some (.int .i64 cc.f.fb) := cell_of_cells g2 6
            have k7 : wr.cell? ⟨bc, 7, none⟩ = some (.int .i64 cc.f.fg) := cell_of_cells g2 7
            have k8 : wr.cell? ⟨bc, 8, none⟩ = some (.int .i64 cc.f.fs) := cell_of_cells g2 8
            have hfk := HCOK.out.f.t
            obtain ⟨fc, hfc⟩ : ∃ f, cc.f = f := ⟨_, rfl⟩
            rw [hfc] at k1 k2 k3 k4 k5 k6 k7 k8 hfk
            obtain ⟨W8, hW8⟩ : ∃ W, wr.alloc (.cells (fca fc) 26) = W := ⟨_, rfl⟩
            have t8 : Touch wr W8 (fun _ => False) := hW8 ▸ (Touch.refl wr _).alloc _
            have g8 : W8.heap[wr.heap.size]? = some (.cells (fca fc) 26 (0, 0)) := hW8 ▸ heap_alloc_new ..
            have n8 := (HN6.out.still HTJ.out).still t8
            have HGK8 := Lib.hid (t8.keeps (HTJ.out.keeps HGK6.out (fun h => h)) (fun h => h))
            obtain ⟨b8, hb8⟩ : ∃ b, wr.heap.size = b := ⟨_, rfl⟩
            rw [hb8] at g8
            have HB8 : RowKit.Hid (w.heap.size ≤ b8 ∧ ¬ footF g h6 b8 ∧ bk ≠ b8) := Lib.hid ⟨hb8 ▸ (HN6.out.still HTJ.out).t.size, fun hf => by have := (HN6.out.still HTJ.out).q.footlt b8 hf; omega, fun e => by have := heap_lt (HTJ.out.keeps HGK6.out (fun h => h)); omega⟩
            have HB80 := Lib.hid hb8
            have HN8 := Lib.hid n8
            have HG8 := Lib.hid g8
            have HW8 := Lib.hid hW8
            have hwq : ∀ r2 : Int, 0 ≤ r2 → r2 < J → wrap64 (N2 - r2) = N2 - r2 := fun r2 h1 h2 => by unfold wrap64; omega
            obtain ⟨y0, y1, y2, y3, y4, y5, y6, y7⟩ := fcells_of g8
            obtain ⟨x0, x1, x2, x3, x4, x5, x6, x7⟩ := fcells_of HGK8.out
            clear g2 hfc hW8 t8 g8 n8 hb8
            simp only [fca] at HW8
            go_upto_region 21 with (fail)
            rw [HW8.out, HB80.out]
            clear k1 k2 k3 k4 k5 k6 k7 k8
            by_cases hct : fc.t = kf.t
            case neg =>
              have hne := tup_ne hct
              go_cut [97] (fun s97 wx => s97 = .bool false ∧ wx = W8)
              case first =>
                go_wp2_with fail
                all_goals first
                  | (go_meet; exact ⟨rfl, rfl⟩)
                  | (exfalso; apply hne; simp_all)
              case rest =>
                obtain ⟨rfl, rfl⟩ := hcut
                clear y0 y1 y2 y3 y4 y5 y6 y7 x0 x1 x2 x3 x4 x5 x6 x7 hne
                obtain ⟨W9, hW9⟩ : ∃ W, wc = W := ⟨_, rfl⟩
                subst hW9
                obtain ⟨f9, hf9⟩ : ∃ f, fc = f := ⟨_, rfl⟩
                subst hf9
                have HG9 := HG8
                have HN9 := HN8
                have HGK9 := HGK8
                have hne9 := hct
                have hok9 := hfk
                obtain ⟨W9, hW9⟩ : ∃ W, wc = W := ⟨_, rfl⟩
                obtain ⟨f9, hf9⟩ : ∃ f, fc = f := ⟨_, rfl⟩
                rw [hW9] at HG9 HN9 HGK9 ⊢
                rw [hf9] at HG9 hne9 hok9
                clear hW9 hf9
                have HTUP := Lib.hid (And.intro hne9 hok9)
                obtain ⟨r2, hr2, hr20, hr21⟩ := modJ f9.fs J hJ0 hJ4
                have HR2 := Lib.hid hr2
                have hwq2 := hwq r2 hr20 hr21
                obtain ⟨q2, hq2⟩ : ∃ q2, N2 - r2 = q2 := ⟨_, rfl⟩
                have HQ2 := Lib.hid hq2
                have hq20 : N2 - J < q2 := by omega
                obtain ⟨W10, hW10⟩ : ∃ W, W9.setCell ⟨b8, 7, none⟩ (.int .i64 q2) = W := ⟨_, rfl⟩
                have g10 : W10.heap[b8]? = some (.cells (fca ⟨f9.t, f9.fb, f9.fg, q2⟩) 26 (0, 0)) := hW10 ▸ heap_setCell_same W9 b8 7 _ _ _ HG9.out
                have t10 : Touch W9 W10 (fun k => k = b8) := hW10 ▸ (Touch.refl W9 (fun k => k = b8)).setCell _ _ (fun _ => rfl)
                have n10 := HN9.out.touch t10 (fun k hk e => HB8.out.2.1 (e ▸ hk)) (fun k hk e => by have e : k = b8 := e; have := HB8.out.1; omega)
                have HN10 := Lib.hid n10
                have HG10 := Lib.hid (t10.keeps HGK9.out HB8.out.2.2)
                have HW10 := Lib.hid hW10
                have hpu := fput_any W10 g h6 T J (idleR M5 J N2) n10.q ⟨f9.t, f9.fb, f9.fg, q2⟩ HTUP.out.2
                have HPU := Lib.hid hpu
                obtain ⟨y0, y1, y2, y3, y4, y5, y6, y7⟩ := fcells_of HG9.out
                have ff9 := free_of_cells HG9.out 7
                simp only [fca] at HPU
                clear hr2 hq2 hW10 t10 n10 hpu hne9 hok9
                go_upto_region 24 with (fail)
                rw [HR2.out]
                (try rw [hwq2])
                rw [HQ2.out, HW10.out]
                clear y0 y1 y2 y3 y4 y5 y6 y7 ff9
                obtain ⟨y0, y1, y2, y3, y4, y5, y6, y7⟩ := fcells_of g10
                clear g10
                go_wp2_with fail
                (with_reducible refine HPU.out.mono ?_)
                rintro e w11 ⟨rfl, s11⟩
                obtain ⟨h11, M11, p11, n11, f11, t11⟩ := HN10.out.step s11
                have HB11 := Lib.hid (HBI6.out.put (f := ⟨f9.t, f9.fb, f9.fg, q2⟩) HTUP.out.1 hq20 p11 n11.q.len.1)
                have HG11 := Lib.hid (t11.keeps HG10.out HNK6.out)
                have HNK11 : RowKit.Hid (¬ footF g h11 bk) := Lib.hid (fun hf => (f11 bk hf).elim HNK6.out (fun h5 => by have := heap_lt HG10.out; omega))
                have HN11 := Lib.hid n11
                have hlT := n11.q.len.1
                have HLE := Lib.hid (flen_any w11 g h11 T J M11 n11.q)
                have HAL := Lib.hid (fall_any w11 g h11 T J M11 n11.q)
                have hlTn : ¬ (T < (M11.length : Int)) := by omega
                clear s11 p11 n11 f11 t11 y0 y1 y2 y3 y4 y5 y6 y7
                go_wp2_with fail
                (with_reducible refine HLE.out.mono ?_)
                rintro e w' ⟨rfl, rfl⟩
                go_wp2_with fail
                (with_reducible refine HAL.out.mono ?_)
                rintro e w12 ⟨a12, c12, L, rfl, hp12, hs12, ho12, t12⟩
                have HP12 := Lib.hid hp12
                have hrw := ho12.row'.2.1
                obtain ⟨m, hm⟩ : ∃ m, L.length = m := ⟨_, rfl⟩
                rw [hm] at hrw ⊢
                have hm4 : m ≤ 256 := by rw [← hm, HP12.out.length_eq]; exact HN11.out.q.small
                have hcp := hrw.hcap
                have hmx := hrw.hmax
                have HRW := Lib.hid hrw
                have HM := Lib.hid hm
                have HN12 := Lib.hid (HN11.out.still t12)
                have HG12 := Lib.hid (t12.keeps HG11.out (fun h => h))
                clear hp12 hs12 ho12 t12 hm hrw
                go_wp2_with fail
                go_loopw [124] (fun s124 wr => ∃ j : Nat, j ≤ m ∧ s124 = .int .i64 j ∧ Touch w12 wr (fun _ => False)) (fun s124 _ => m - (RowKit.intOf s124).toNat)
                case atStart => exact ⟨0, Nat.zero_le _, rfl, Touch.refl _ _⟩
                case round =>
                  obtain ⟨j, hjm, rfl, htj⟩ := hrel
                  have HTJ := Lib.hid htj
                  clear htj
                  by_cases hlj : j < m
                  case neg =>
                    obtain rfl : m = j := by omega
                    have HX := Lib.hid (HEND.out wr N2 h11 M11 h100 (by omega) (by omega) (HN12.out.still HTJ.out) HB11.out (HTJ.out.keeps HG12.out (fun h => h)) HNK11.out)
                    go_wp2_with fail
                    go_roundw
                    · exact HX.out
                    · simp only [RowKit.intOf]; omega
                  case pos =>
                    have HRX := Lib.hid (HRW.out.still HTJ.out)
                    obtain ⟨B, off, rfl⟩ := HRX.out.some (by omega)
                    obtain ⟨d0, d1, d2, d3, d4, d5, d6, d7⟩ := flow_cells HRX.out j (by rw [HM.out]; exact hlj)
                    obtain ⟨y, hy⟩ : ∃ y, gf L j = y := ⟨_, rfl⟩
                    rw [hy] at d0 d1 d2 d3 d4 d5 d6 d7
                    have hym : y ∈ M11 := HP12.out.mem_iff.1 (by rw [← hy]; exact gf_mem L j (by rw [HM.out]; exact hlj))
                    have hyg := HB11.out.young y hym
                    have hyr := may_rng (HN11.out.q.ok y hym).2
                    obtain ⟨W14, hW14⟩ : ∃ W, wr.alloc (.cells (fca y) 26) = W := ⟨_, rfl⟩
                    have t14 : Touch wr W14 (fun _ => False) := hW14 ▸ (Touch.refl wr _).alloc _
                    have g14 : W14.heap[wr.heap.size]? = some (.cells (fca y) 26 (0, 0)) := hW14 ▸ heap_alloc_new ..
                    have z7 : W14.cell? ⟨wr.heap.size, 7, none⟩ = some (.int .i64 y.fs) := cell_of_cells g14 7
                    have HT14 := Lib.hid (HTJ.out.trans t14 (fun _ _ h => h))
                    have HW14 := Lib.hid hW14
                    have hjI : (j : Int) < m := by omega
                    have hyn : ¬ (y.fs + J ≤ N2 - J) := by omega
                    have hya : -1000 ≤ y.fs + J := by omega
                    have hyb : y.fs + J ≤ 1099511630000 := by omega
                    clear t14 g14 hW14 hy hym
                    simp only [fca] at HW14
                    go_upto_region 30 with (fail)
                    rw [HW14.out]
                    clear d0 d1 d2 d3 d4 d5 d6 d7
                    go_wp2_with fail
                    go_roundw
                    · exact ⟨j + 1, by omega, by go_num, HT14.out⟩
                    · simp only [RowKit.intOf]; omega
            case pos =>
              have e0 : kf.t.src = fc.t.src := by rw [hct]
              have e1 : kf.t.dst = fc.t.dst := by rw [hct]
              have e2 : kf.t.proto = fc.t.proto := by rw [hct]
              have e3 : kf.t.sport = fc.t.sport := by rw [hct]
              have e4 : kf.t.dport = fc.t.dport := by rw [hct]
              rw [e0] at x0
              rw [e1] at x1
              rw [e2] at x2
              rw [e3] at x3
              rw [e4] at x4
              obtain ⟨f9, hf9⟩ : ∃ f : FlD, f = ⟨nextT fc.t, fc.fb, fc.fg, fc.fs⟩ := ⟨_, rfl⟩
              obtain ⟨W9, hW9⟩ : ∃ W, W8.setCell ⟨b8, 0, none⟩ (.int .u32 ((fc.t.src + 1) % 4294967296)) = W := ⟨_, rfl⟩
              have g9 : W9.heap[b8]? = some (.cells (fca f9) 26 (0, 0)) := by
                rw [hf9, ← hW9]
                exact heap_setCell_same W8 b8 0 _ _ _ HG8.out
              have t9 : Touch W8 W9 (fun k => k = b8) := hW9 ▸ (Touch.refl W8 (fun k => k = b8)).setCell _ _ (fun _ => rfl)
              have HN9 := Lib.hid (HN8.out.touch t9 (fun k hk e => HB8.out.2.1 (e ▸ hk)) (fun k hk e => by have e : k = b8 := e; have := HB8.out.1; omega))
              have HGK9 := Lib.hid (t9.keeps HGK8.out HB8.out.2.2)
              have HG9 := Lib.hid g9
              have HW9 := Lib.hid hW9
              have ff8 := free_of_cells HG8.out 0
              have hne9 : f9.t ≠ kf.t := by rw [hf9, ← hct]; exact nextT_ne _ hfk
              have hok9 : TupOk f9.t := by rw [hf9]; exact nextT_ok _ hfk
              clear g9 t9 hW9 e0 e1 e2 e3 e4 hct
              go_upto_region 23 with (fail)
              rw [HW9.out]
              clear y0 y1 y2 y3 y4 y5 y6 y7 x0 x1 x2 x3 x4 x5 x6 x7 ff8 hf9
              have HTUP := Lib.hid (And.intro hne9 hok9)
              obtain ⟨r2, hr2, hr20, hr21⟩ := modJ f9.fs J hJ0 hJ4
              have HR2 := Lib.hid hr2
              have hwq2 := hwq r2 hr20 hr21
              obtain ⟨q2, hq2⟩ : ∃ q2, N2 - r2 = q2 := ⟨_, rfl⟩
              have HQ2 := Lib.hid hq2
              have hq20 : N2 - J < q2 := by omega
              obtain ⟨W10, hW10⟩ : ∃ W, W9.setCell ⟨b8, 7, none⟩ (.int .i64 q2) = W := ⟨_, rfl⟩
              have g10 : W10.heap[b8]? = some (.cells (fca ⟨f9.t, f9.fb, f9.fg, q2⟩) 26 (0, 0)) := hW10 ▸ heap_setCell_same W9 b8 7 _ _ _ HG9.out
              have t10 : Touch W9 W10 (fun k => k = b8) := hW10 ▸ (Touch.refl W9 (fun k => k = b8)).setCell _ _ (fun _ => rfl)
              have n10 := HN9.out.touch t10 (fun k hk e => HB8.out.2.1 (e ▸ hk)) (fun k hk e => by have e : k = b8 := e; have := HB8.out.1; omega)
              have HN10 := Lib.hid n10
              have HG10 := Lib.hid (t10.keeps HGK9.out HB8.out.2.2)
              have HW10 := Lib.hid hW10
              have hpu := fput_any W10 g h6 T J (idleR M5 J N2) n10.q ⟨f9.t, f9.fb, f9.fg, q2⟩ HTUP.out.2
              have HPU := Lib.hid hpu
              obtain ⟨y0, y1, y2, y3, y4, y5, y6, y7⟩ := fcells_of HG9.out
              have ff9 := free_of_cells HG9.out 7
              simp only [fca] at HPU
              clear hr2 hq2 hW10 t10 n10 hpu hne9 hok9
              go_upto_region 24 with (fail)
              rw [HR2.out]
              (try rw [hwq2])
              rw [HQ2.out, HW10.out]
              clear y0 y1 y2 y3 y4 y5 y6 y7 ff9
              obtain ⟨y0, y1, y2, y3, y4, y5, y6, y7⟩ := fcells_of g10
              clear g10
              go_wp2_with fail
              (with_reducible refine HPU.out.mono ?_)
              rintro e w11 ⟨rfl, s11⟩
              obtain ⟨h11, M11, p11, n11, f11, t11⟩ := HN10.out.step s11
              have HB11 := Lib.hid (HBI6.out.put (f := ⟨f9.t, f9.fb, f9.fg, q2⟩) HTUP.out.1 hq20 p11 n11.q.len.1)
              have HG11 := Lib.hid (t11.keeps HG10.out HNK6.out)
              have HNK11 : RowKit.Hid (¬ footF g h11 bk) := Lib.hid (fun hf => (f11 bk hf).elim HNK6.out (fun h5 => by have := heap_lt HG10.out; omega))
              have HN11 := Lib.hid n11
              have hlT := n11.q.len.1
              have HLE := Lib.hid (flen_any w11 g h11 T J M11 n11.q)
              have HAL := Lib.hid (fall_any w11 g h11 T J M11 n11.q)
              have hlTn : ¬ (T < (M11.length : Int)) := by omega
              clear s11 p11 n11 f11 t11 y0 y1 y2 y3 y4 y5 y6 y7
              go_wp2_with fail
              (with_reducible refine HLE.out.mono ?_)
              rintro e w' ⟨rfl, rfl⟩
              go_wp2_with fail
              (with_reducible refine HAL.out.mono ?_)
              rintro e w12 ⟨a12, c12, L, rfl, hp12, hs12, ho12, t12⟩
              have HP12 := Lib.hid hp12
              have hrw := ho12.row'.2.1
              obtain ⟨m, hm⟩ : ∃ m, L.length = m := ⟨_, rfl⟩
              rw [hm] at hrw ⊢
              have hm4 : m ≤ 256 := by rw [← hm, HP12.out.length_eq]; exact HN11.out.q.small
              have hcp := hrw.hcap
              have hmx := hrw.hmax
              have HRW := Lib.hid hrw
              have HM := Lib.hid hm
              have HN12 := Lib.hid (HN11.out.still t12)
              have HG12 := Lib.hid (t12.keeps HG11.out (fun h => h))
              clear hp12 hs12 ho12 t12 hm hrw
              go_wp2_with fail
              go_loopw [124] (fun s124 wr => ∃ j : Nat, j ≤ m ∧ s124 = .int .i64 j ∧ Touch w12 wr (fun _ => False)) (fun s124 _ => m - (RowKit.intOf s124).toNat)
              case atStart => exact ⟨0, Nat.zero_le _, rfl, Touch.refl _ _⟩
              case round =>
                obtain ⟨j, hjm, rfl, htj⟩ := hrel
                have HTJ := Lib.hid htj
                clear htj
                by_cases hlj : j < m
                case neg =>
                  obtain rfl : m = j := by omega
                  have HX := Lib.hid (HEND.out wr N2 h11 M11 h100 (by omega) (by omega) (HN12.out.still HTJ.out) HB11.out (HTJ.out.keeps HG12.out (fun h => h)) HNK11.out)
                  go_wp2_with fail
                  go_roundw
                  · exact HX.out
                  · simp only [RowKit.intOf]; omega
                case pos =>
                  have HRX := Lib.hid (HRW.out.still HTJ.out)
                  obtain ⟨B, off, rfl⟩ := HRX.out.some (by omega)
                  obtain ⟨d0, d1, d2, d3, d4, d5, d6, d7⟩ := flow_cells HRX.out j (by rw [HM.out]; exact hlj)
                  obtain ⟨y, hy⟩ : ∃ y, gf L j = y := ⟨_, rfl⟩
                  rw [hy] at d0 d1 d2 d3 d4 d5 d6 d7
                  have hym : y ∈ M11 := HP12.out.mem_iff.1 (by rw [← hy]; exact gf_mem L j (by rw [HM.out]; exact hlj))
                  have hyg := HB11.out.young y hym
                  have hyr := may_rng (HN11.out.q.ok y hym).2
                  obtain ⟨W14, hW14⟩ : ∃ W, wr.alloc (.cells (fca y) 26) = W := ⟨_, rfl⟩
                  have t14 : Touch wr W14 (fun _ => False) := hW14 ▸ (Touch.refl wr _).alloc _
                  have g14 : W14.heap[wr.heap.size]? = some (.cells (fca y) 26 (0, 0)) := hW14 ▸ heap_alloc_new ..
                  have z7 : W14.cell? ⟨wr.heap.size, 7, none⟩ = some (.int .i64 y.fs) := cell_of_cells g14 7
                  have HT14 := Lib.hid (HTJ.out.trans t14 (fun _ _ h => h))
                  have HW14 := Lib.hid hW14
                  have hjI : (j : Int) < m := by omega
                  have hyn : ¬ (y.fs + J ≤ N2 - J) := by omega
                  have hya : -1000 ≤ y.fs + J := by omega
                  have hyb : y.fs + J ≤ 1099511630000 := by omega
                  clear t14 g14 hW14 hy hym
                  simp only [fca] at HW14
                  go_upto_region 30 with (fail)
                  rw [HW14.out]
                  clear d0 d1 d2 d3 d4 d5 d6 d7
                  go_wp2_with fail
                  go_roundw
                  · exact ⟨j + 1, by omega, by go_num, HT14.out⟩
                  · simp only [RowKit.intOf]; omega
theorem flowsBound_holds : Rows.FlowsBoundSaid := by
  refine flowsBound.said fun H enc W base v0 v1 v2 d0 d1 d2 p0 p1 p2 h0 h1 h2 => ?_
  obtain ⟨m, rfl, _⟩ := h0.i64 Try.underlying3
  obtain ⟨i, rfl, _⟩ := h1.i64 Try.underlying2
  obtain ⟨a, cap, l, rfl, hr, hok⟩ := h2.callsF
  exact bound11_walk W m i a cap l hr hok
end Go.Proofs.Ytgmimdnebgncoaa
