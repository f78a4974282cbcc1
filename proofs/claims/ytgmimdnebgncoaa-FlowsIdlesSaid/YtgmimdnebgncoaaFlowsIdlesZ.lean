/- FlowsIdles answers true for any flows and any times. -/
import Derived.Test.YtgmimdnebgncoaaGNZ
import Derived.Test.YtgmimdnebgncoaaFrFlowsIdlesZ
import Derived.Deep.DeepCutAuto
set_option linter.unusedVariables false
set_option linter.unusedSimpArgs false
namespace Go.Proofs.Ytgmimdnebgncoaa
open Go.RowKit

set_option maxRecDepth 20000 in
set_option maxHeartbeats 24000000 in
theorem idles11_walk (w : World) (a0 : Option Addr) (cap : Nat) (l : List FlD) (hr : RowS w a0 l.length cap 8 (l.map fcl)) (hok : ∀ f ∈ l, FlOk f) (idle ta tb : Int) :
    Calls Try.prog 7 #[.slice a0 l.length cap, .int .i64 idle, .int .i64 ta, .int .i64 tb] w fun e w' => e = .returned (.bool true) ∧ Below w.heap.size w w' := by
  obtain ⟨n, hn⟩ : ∃ n, l.length = n := ⟨_, rfl⟩
  rw [hn] at hr ⊢
  have hcap := hr.hcap
  have hmax := hr.hmax
  have HR := Lib.hid hr
  have HOK := Lib.hid hok
  obtain ⟨J1, hJ1, hJ2, hJ3⟩ := modM idle 50 (by decide) (by decide)
  obtain ⟨J, hJ, hJ0, hJ4⟩ : ∃ J : Int, wrap64 (J1 + 1) = J ∧ 1 ≤ J ∧ J ≤ 50 := ⟨J1 + 1, by unfold wrap64; omega, by omega, by omega⟩
  obtain ⟨A0, hA0, hA1, hA2⟩ := modM ta 200 (by decide) (by decide)
  obtain ⟨B0, hB0, hB1, hB2⟩ := modM tb 200 (by decide) (by decide)
  have HJ1 := Lib.hid hJ1
  have HJ := Lib.hid hJ
  have HA0 := Lib.hid hA0
  have HB0 := Lib.hid hB0
  clear hr hok hJ hJ1 hA0 hB0
  go_enter Try.func7, Try.ntmps7
  go_upto_region 2 with (fail)
  rw [HJ1.out, HJ.out, HA0.out, HB0.out]
  go_upto_if 31 with fail
  go_cut [2, 3] (fun s2 s3 wx => ∃ A B : Int, s2 = .int .i64 A ∧ s3 = .int .i64 B ∧ 0 ≤ A ∧ A ≤ B ∧ B < 200 ∧ wx = w)
  case first =>
    by_cases hab : B0 < A0
    · go_wp2_with fail
      go_meet
      exact ⟨B0, A0, rfl, rfl, hB1, by omega, hA2, rfl⟩
    · go_wp2_with fail
      go_meet
      exact ⟨A0, B0, rfl, rfl, hA1, by omega, hB2, rfl⟩
  case rest =>
    obtain ⟨A, B, rfl, rfl, hA, hAB, hB, rfl⟩ := hcut
    clear HJ1 HJ HA0 HB0 hA1 hA2 hB1 hB2
    go_wp2_with fail
    refine (fnew_any wc 100 J).mono ?_
    rintro e w0 ⟨gp, hp, rfl, q0, t0, f0⟩
    rw [show min (max (100 : Int) 0) 256 = 100 by decide, show min (max J 1) 1099511627776 = J by omega] at q0
    have N0 := Lib.hid (FN.mk q0 t0 f0)
    clear q0 t0 f0
    go_wp2_with fail
    refine (fnew_any w0 100 J).mono ?_
    rintro e w1 ⟨gq, hq, rfl, q1, t1, f1⟩
    rw [show min (max (100 : Int) 0) 256 = 100 by decide, show min (max J 1) 1099511627776 = J by omega] at q1
    have N1 := Lib.hid (F2.new N0.out q1 t1 f1)
    clear q1 t1 f1 N0
    go_wp2_with fail
    go_loopw [40] (fun s40 wr => ∃ (k : Nat) (hp hq : FH) (M : List FlD), k ≤ n ∧ s40 = .int .i64 k ∧ F2 wc wr gp hp gq hq 100 J M M) (fun s40 _ => n - (RowKit.intOf s40).toNat)
    case atStart => exact ⟨0, hp, hq, [], Nat.zero_le _, rfl, N1.out⟩
    case round =>
      obtain ⟨k, hp, hq, M, hkn, rfl, hf2⟩ := hrel
      have HQ := Lib.hid hf2
      clear hf2 N1
      by_cases hlt : k < n
      case neg =>
        obtain rfl : n = k := by omega
        have hM100 : M.length ≤ 100 := by have := HQ.out.p.q.len.1; omega
        have HI1 := Lib.hid (fidle_any wr gp hp 100 J M HQ.out.p.q A ⟨by omega, by omega⟩)
        go_wp2_with fail
        (with_reducible refine HI1.out.mono ?_)
        rintro e w3 ⟨v3, rfl, s3⟩
        obtain ⟨a1, c1, hp3, rfl, ho1, hd1, n3, f3, t3⟩ := HQ.out.goneP s3
        have hsz3 := t3.size
        have HI2 := Lib.hid (fidle_any w3 gp hp3 100 J _ n3.p.q B ⟨by omega, by omega⟩)
        have HO1 := Lib.hid ho1
        have HD1 := Lib.hid (own_notF ho1 hd1)
        have HN3 := Lib.hid n3
        clear s3 ho1 hd1 n3 f3 t3
        go_wp2_with fail
        (with_reducible refine HI2.out.mono ?_)
        rintro e w4 ⟨v4, rfl, s4⟩
        obtain ⟨a2, c2, hp4, rfl, ho2, hd2, n4, f4, t4⟩ := HN3.out.goneP s4
        have ho1b := HO1.out.touch t4 (fun x hx => HD1.out x hx)
        have hbs : wr.heap.size ≤ w4.heap.size := Nat.le_trans hsz3 t4.size
        have HD14 : RowKit.Hid (∀ x, (Value.slice a1 (idleA M J A).length c1).ownBlock = some x → ¬ footF gp hp4 x ∧ ¬ footF gq hq x ∧ wc.heap.size ≤ x) := Lib.hid (fun x hx => by
          have hlt := HO1.out.own.lt x hx
          refine ⟨fun hf => (f4 x hf).elim (HD1.out x hx) (fun h9 => by omega), fun hf => ?_, Nat.le_trans HQ.out.p.t.size hlt.1⟩
          have := HQ.out.q.q.footlt x hf
          omega)
        have HO1 := Lib.hid ho1b
        have HR2 := Lib.hid ho2.row'.2.1
        have HN4 := Lib.hid n4
        obtain ⟨e12, e34⟩ := idle_two (J := J) hAB M
        have hl12 : (idleA M J A).length + (idleA (idleR M J A) J B).length ≤ 100 := by
          rw [← List.length_append, e12]
          exact Nat.le_trans (idle_len ..) hM100
        have HE := Lib.hid (And.intro e12 e34)
        have HBS := Lib.hid hbs
        clear s4 ho2 hd2 n4 f4 t4 ho1b e12 e34 hbs
        go_upto_region 14 with (at_builtin; (with_reducible refine wp_appS HO1.out HR2.out (all_fcl _) 35 Try.underlying35 (.agg (fca noF)) 56 infoFlowB rfl (by decide) (by simp only [maxLen, List.length_map]; omega) (by simp only [List.length_map]; omega) ((Touch.refl w4 (fun _ => False)).under HBS.out) (Nat.le_refl _) HBS.out rfl _ _ rfl rfl rfl ((idleA M J A).length + (idleA (idleR M J A) J B).length) ((idleA M J B).map fcl) (by rw [List.length_map]) (by rw [← List.map_append, HE.out.1]) ?_); intro a5 c5 w5 ho5 hg5 hb5 hp5; have HO5 := Lib.hid ho5; have HG5 := Lib.hid hg5; have HP5 := Lib.hid hp5; clear ho5 hg5 hb5 hp5)
        have t5 : Touch w4 w5 (fun k => (Value.slice a1 (idleA M J A).length c1).ownBlock = some k) := (Touch.refl w4 _).grown HG5.out (fun k hk _ => hk)
        have n5 : F2 wc w5 gp hp4 gq hq 100 J (idleR (idleR M J A) J B) M := ⟨HN4.out.p.touch t5 (fun k hk hs => (HD14.out k hs).1 hk) (fun k hk hs => by have := (HD14.out k hs).2.2; omega), HN4.out.q.touch t5 (fun k hk hs => (HD14.out k hs).2.1 hk) (fun k hk hs => by have := (HD14.out k hs).2.2; omega), HN4.out.dis⟩
        have HN5 := Lib.hid n5
        have HNX : RowKit.Hid (∀ x, (Value.slice a5 ((idleA M J A).length + (idleA (idleR M J A) J B).length) c5).ownBlock = some x → ¬ footF gq hq x) := Lib.hid (fun x hx hf => by
          rcases HP5.out x hx with h9 | h9
          · exact (HD14.out x h9).2.1 hf
          · have := HN4.out.q.q.footlt x hf
            omega)
        have HI3 := Lib.hid (fidle_any w5 gq hq 100 J M n5.q.q B ⟨by omega, by omega⟩)
        clear t5 n5 HD14 HP5 HG5
        go_wp2_with fail
        (with_reducible refine HI3.out.mono ?_)
        rintro e w6 ⟨v6, rfl, s6⟩
        obtain ⟨a6, c6, hq6, rfl, ho6, n6, t6⟩ := HN5.out.goneQ s6
        have hr5 := (HO5.out.touch t6 (fun x hx => HNX.out x hx)).row'.2.1
        have hl5 : (idleA M J A).length + (idleA (idleR M J A) J B).length = (idleA M J B).length := by rw [← List.length_append, HE.out.1]
        rw [hl5] at hr5 ⊢
        have hlB : (idleA M J B).length ≤ 100 := Nat.le_trans (idle_len ..) hM100
        have HSM := Lib.hid (samefl_any w6 a5 a6 _ c5 c6 (idleA M J B) hr5 ho6.row'.2.1 (by omega))
        have n6b := n6
        rw [HE.out.2] at n6b
        have HN6 := Lib.hid n6b
        clear s6 ho6 n6 t6 hr5 hl5 n6b HO5 HNX
        go_wp2_with fail
        (with_reducible refine HSM.out.mono ?_)
        rintro e w7 ⟨rfl, t7⟩
        have n7 := HN6.out.still t7
        have HA7 := Lib.hid (fall_any w7 gp hp4 100 J (idleR M J B) n7.p.q)
        have HN7 := Lib.hid n7
        clear t7 n7
        go_wp2_with fail
        (with_reducible refine HA7.out.mono ?_)
        rintro e w8 ⟨a8, c8, L8, rfl, hp8, hs8, ho8, t8⟩
        have n8 := HN7.out.still t8
        have HA8 := Lib.hid (fall_any w8 gq hq6 100 J (idleR M J B) n8.q.q)
        have HL8 := Lib.hid (And.intro hp8 hs8)
        have HR8 := Lib.hid ho8.row'.2.1
        have HN8 := Lib.hid n8
        clear hp8 hs8 ho8 t8 n8
        go_wp2_with fail
        (with_reducible refine HA8.out.mono ?_)
        rintro e w9 ⟨a9, c9, L9, rfl, hp9, hs9, ho9, t9⟩
        obtain rfl : L9 = L8 := strict_ext (hp9.trans HL8.out.1.symm) hs9 HL8.out.2
        have hlen : L9.length ≤ 256 := by rw [hp9.length_eq]; exact HN8.out.q.q.small
        have HSM9 := Lib.hid (samefl_any w9 a8 a9 L9.length c8 c9 L9 (HR8.out.still t9) ho9.row'.2.1 (by omega))
        have HN9 := Lib.hid (HN8.out.still t9)
        clear hp9 hs9 ho9 t9
        go_wp2_with fail
        (with_reducible refine HSM9.out.mono ?_)
        rintro e w10 ⟨rfl, t10⟩
        have n10 := HN9.out.still t10
        have HAX := Lib.hid (fall_any w10 gp hp4 100 J (idleR M J B) n10.p.q)
        have HN10 := Lib.hid n10
        clear t10 n10
        go_wp2_with fail
        (with_reducible refine HAX.out.mono ?_)
        rintro e w12 ⟨a12, c12, L, rfl, hp12, hs12, ho12, t12⟩
        have HYO : RowKit.Hid (∀ y ∈ L, B - y.fs < J ∧ 0 ≤ y.fs ∧ y.fs ≤ 1099511627776) := Lib.hid (fun y hy => by
          obtain ⟨h1, h2⟩ := idle_young HQ.out.p.q.asc (fun x hx => (may_rng (HQ.out.p.q.ok x hx).2).1) y (hp12.mem_iff.1 hy)
          exact ⟨h1, may_rng (HQ.out.p.q.ok y h2).2⟩)
        have hrw := ho12.row'.2.1
        obtain ⟨m, hm⟩ : ∃ m, L.length = m := ⟨_, rfl⟩
        rw [hm] at hrw ⊢
        have hm4 : m ≤ 256 := by rw [← hm, hp12.length_eq]; exact HN10.out.p.q.small
        have hcp := hrw.hcap
        have hmx := hrw.hmax
        have HRW := Lib.hid hrw
        have HM := Lib.hid hm
        have HT12 := Lib.hid (HN10.out.p.t.trans t12 (fun _ _ h => h))
        clear hp12 hs12 ho12 t12 hm hrw
        go_wp2_with fail
        go_loopw [84] (fun s84 wr => ∃ j : Nat, j ≤ m ∧ s84 = .int .i64 j ∧ Touch w12 wr (fun _ => False)) (fun s84 _ => m - (RowKit.intOf s84).toNat)
        case atStart => exact ⟨0, Nat.zero_le _, rfl, Touch.refl _ _⟩
        case round =>
          obtain ⟨j, hjm, rfl, htj⟩ := hrel
          have HTJ := Lib.hid htj
          clear htj
          by_cases hlj : j < m
          case neg =>
            obtain rfl : m = j := by omega
            go_wp2_with fail
            refine (awake11 _).mono ?_
            rintro e w15 ⟨rfl, t15⟩
            have HT15 := Lib.hid ((HT12.out.trans HTJ.out (fun _ _ h => h)).trans t15 (fun _ _ h => h))
            clear t15
            go_wp2_with fail
            go_ret
            exact ⟨rfl, HT15.out.below (fun _ _ h => h.elim) (Nat.le_refl _)⟩
          case pos =>
            have HRX := Lib.hid (HRW.out.still HTJ.out)
            obtain ⟨Bb, off, rfl⟩ := HRX.out.some (by omega)
            obtain ⟨d0, d1, d2, d3, d4, d5, d6, d7⟩ := flow_cells HRX.out j (by rw [HM.out]; exact hlj)
            obtain ⟨y, hy⟩ : ∃ y, gf L j = y := ⟨_, rfl⟩
            rw [hy] at d0 d1 d2 d3 d4 d5 d6 d7
            obtain ⟨hy1, hy2, hy3⟩ := HYO.out y (by rw [← hy]; exact gf_mem L j (by rw [HM.out]; exact hlj))
            obtain ⟨W14, hW14⟩ : ∃ W, wr.alloc (.cells (fca y) 26) = W := ⟨_, rfl⟩
            have t14 : Touch wr W14 (fun _ => False) := hW14 ▸ (Touch.refl wr _).alloc _
            have g14 : W14.heap[wr.heap.size]? = some (.cells (fca y) 26 (0, 0)) := hW14 ▸ heap_alloc_new ..
            have z7 : W14.cell? ⟨wr.heap.size, 7, none⟩ = some (.int .i64 y.fs) := cell_of_cells g14 7
            have HT14 := Lib.hid (HTJ.out.trans t14 (fun _ _ h => h))
            have HW14 := Lib.hid hW14
            have hjI : (j : Int) < m := by omega
            have hyn : ¬ (J ≤ B - y.fs) := by omega
            clear t14 g14 hW14 hy
            simp only [fca] at HW14
            go_upto_region 19 with (fail)
            rw [HW14.out]
            clear d0 d1 d2 d3 d4 d5 d6 d7
            go_wp2_with fail
            go_roundw
            · exact ⟨j + 1, by omega, by go_num, HT14.out⟩
            · simp only [RowKit.intOf]; omega
      case pos =>
        have HRX := Lib.hid (HR.out.still HQ.out.p.t)
        obtain ⟨gr, off, rfl⟩ := HRX.out.some (by omega)
        obtain ⟨d0, d1, d2, d3, d4, d5, d6, d7⟩ := flow_cells HRX.out k (by omega)
        have hfok := HOK.out _ (gf_mem l k (by omega))
        generalize gf l k = x at *
        obtain ⟨W2, hW2⟩ : ∃ W, wr.alloc (.cells (fca x) 26) = W := ⟨_, rfl⟩
        have t2 : Touch wr W2 (fun _ => False) := hW2 ▸ (Touch.refl wr _).alloc _
        have g2 : W2.heap[wr.heap.size]? = some (.cells (fca x) 26 (0, 0)) := hW2 ▸ heap_alloc_new ..
        obtain ⟨bx, hbx⟩ : ∃ b, wr.heap.size = b := ⟨_, rfl⟩
        rw [hbx] at g2
        have HBX : RowKit.Hid (wc.heap.size ≤ bx ∧ ¬ footF gp hp bx ∧ ¬ footF gq hq bx) := Lib.hid ⟨hbx ▸ HQ.out.p.t.size, fun hf => by have := HQ.out.p.q.footlt bx hf; omega, fun hf => by have := HQ.out.q.q.footlt bx hf; omega⟩
        have HBX0 := Lib.hid hbx
        have HQ2 := Lib.hid (HQ.out.still t2)
        have HG2 := Lib.hid g2
        have HW2 := Lib.hid hW2
        have HXO := Lib.hid hfok
        have hlI : (k : Int) < n := by omega
        have HEND : RowKit.Hid (∀ W (M1 M2 : List FlD) hp' hq', F2 wc W gp hp' gq hq' 100 J M1 M2 → M1.Perm M2 → ∃ (k' : Nat) (hp hq : FH) (M : List FlD), k' ≤ n ∧ Value.int .i64 ((k : Int) + 1) = .int .i64 k' ∧ F2 wc W gp hp gq hq 100 J M M) := Lib.hid (fun W M1 M2 hp' hq' q hpm => by
          obtain rfl := FS.uniq q.p.q q.q.q hpm
          exact ⟨k + 1, hp', hq', M1, by omega, by go_num, q⟩)
        clear t2 g2 hW2 hfok hbx
        simp only [fca] at HW2
        go_upto_region 8 with (fail)
        rw [HW2.out, HBX0.out]
        clear d0 d1 d2 d3 d4 d5 d6 d7
        by_cases h60 : k < 60
        case neg =>
          have h60' : ¬ (k : Int) < 60 := by omega
          go_wp2_with fail
          go_roundw
          · exact HEND.out _ _ _ _ _ HQ2.out (.refl _)
          · simp only [RowKit.intOf]; omega
        case pos =>
          have h60' : (k : Int) < 60 := by omega
          obtain ⟨r2, hr2, hr20, hr21⟩ := modM x.fs 100 (by decide) (by decide)
          have HR2 := Lib.hid hr2
          obtain ⟨W10, hW10⟩ : ∃ W, W2.setCell ⟨bx, 7, none⟩ (.int .i64 r2) = W := ⟨_, rfl⟩
          have g10 : W10.heap[bx]? = some (.cells (fca ⟨x.t, x.fb, x.fg, r2⟩) 26 (0, 0)) := hW10 ▸ heap_setCell_same W2 bx 7 _ _ _ HG2.out
          have t10 : Touch W2 W10 (fun k => k = bx) := hW10 ▸ (Touch.refl W2 (fun k => k = bx)).setCell _ _ (fun _ => rfl)
          have n10 : F2 wc W10 gp hp gq hq 100 J M M := ⟨HQ2.out.p.touch t10 (fun k hk e => HBX.out.2.1 (e ▸ hk)) (fun k hk e => by have e : k = bx := e; have := HBX.out.1; omega), HQ2.out.q.touch t10 (fun k hk e => HBX.out.2.2 (e ▸ hk)) (fun k hk e => by have e : k = bx := e; have := HBX.out.1; omega), HQ2.out.dis⟩
          have HN10 := Lib.hid n10
          have HW10 := Lib.hid hW10
          have HG10 := Lib.hid g10
          have HPU := Lib.hid (fput_any W10 gp hp 100 J M n10.p.q ⟨x.t, x.fb, x.fg, r2⟩ HXO.out.1)
          obtain ⟨y0, y1, y2, y3, y4, y5, y6, y7⟩ := fcells_of HG2.out
          have ff := free_of_cells HG2.out 7
          simp only [fca] at HPU
          clear hr2 hW10 t10 n10
          go_upto_region 10 with (fail)
          rw [HR2.out, HW10.out]
          clear y0 y1 y2 y3 y4 y5 y6 y7 ff
          obtain ⟨y0, y1, y2, y3, y4, y5, y6, y7⟩ := fcells_of g10
          clear g10
          go_wp2_with fail
          (with_reducible refine HPU.out.mono ?_)
          rintro e w11 ⟨rfl, s11⟩
          obtain ⟨hp11, M11, p11, n11, f11, t11⟩ := HN10.out.stepP s11
          have g11 := t11.keeps HG10.out HBX.out.2.1
          have HPQ := Lib.hid (fput_any w11 gq hq 100 J M n11.q.q ⟨x.t, x.fb, x.fg, r2⟩ HXO.out.1)
          have HN11 := Lib.hid n11
          have HP11 := Lib.hid p11
          simp only [fca] at HPQ
          clear y0 y1 y2 y3 y4 y5 y6 y7 s11 p11 n11 f11 t11
          obtain ⟨y0, y1, y2, y3, y4, y5, y6, y7⟩ := fcells_of g11
          clear g11
          go_wp2_with (go_at_call 9; (with_reducible refine HPQ.out.mono ?_); rintro e w12 ⟨rfl, s12⟩; obtain ⟨hq12, M12, p12, n12, f12, t12⟩ := HN11.out.stepQ s12; have HX := Lib.hid (HEND.out _ _ _ _ _ n12 (HP11.out.trans p12.symm)); clear s12 n12 f12 t12 p12)
          go_roundw
          · exact HX.out
          · simp only [RowKit.intOf]; omega
theorem flowsIdles_holds : Rows.FlowsIdlesSaid := by
  refine flowsIdles.said fun H enc W base v0 v1 v2 v3 d0 d1 d2 d3 p0 p1 p2 p3 h0 h1 h2 h3 => ?_
  obtain ⟨a, cap, l, rfl, hr, hok⟩ := h0.flowsF
  obtain ⟨i, rfl, _⟩ := h1.i64 Try.underlying2
  obtain ⟨x, rfl, _⟩ := h2.i64 Try.underlying2
  obtain ⟨y, rfl, _⟩ := h3.i64 Try.underlying2
  exact idles11_walk W a cap l hr hok i x y
end Go.Proofs.Ytgmimdnebgncoaa
