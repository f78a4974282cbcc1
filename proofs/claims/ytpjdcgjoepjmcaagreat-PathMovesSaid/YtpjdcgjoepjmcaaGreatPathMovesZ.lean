/- PathMoves holds: a flow whose backend is no more gets another one, once, with a record; then it stays there. No condition. -/
import Derived.Test.YtpjdcgjoepjmcaaGreatPathXZ
import Derived.Test.YtpjdcgjoepjmcaaGreatFrPathMovesZ
import Derived.Test.YtpjdcgjoepjmcaaGreatGFZ
import Derived.Test.YtpjdcgjoepjmcaaGreatTupArgsZ
import Derived.Test.YtpjdcgjoepjmcaaGreatRecRSameZ
import Derived.Deep.DeepCutAuto
set_option linter.unusedVariables false
set_option linter.unusedSimpArgs false
namespace Go.Proofs.YtpjdcgjoepjmcaaGreat
open Go.RowKit

theorem modG (x m : Int) (hm : 0 < m) (hm2 : m ≤ 1000000) : ∃ N : Nat, wrap64 ((IntKind.u64.wrap x).tmod m) = (N : Int) ∧ (N : Int) < m := by
  have hu : 0 ≤ IntKind.u64.wrap x := by simp only [IntKind.wrap_u64]; omega
  have h2 : (IntKind.u64.wrap x).tmod m = (IntKind.u64.wrap x) % m := Int.tmod_eq_emod_of_nonneg hu
  have h3 := Int.emod_nonneg (IntKind.u64.wrap x) (show m ≠ 0 by omega)
  have h4 := Int.emod_lt_of_pos (IntKind.u64.wrap x) hm
  rw [h2]
  generalize (IntKind.u64.wrap x) % m = y at *
  refine ⟨y.toNat, ?_, by omega⟩
  unfold wrap64
  omega
theorem mayB_kX (k : TupD) : mayB (kOf k) = mayTB k := by
  rw [Bool.eq_iff_iff, may_iff, mayTB_iff]
  simp only [kOf]
  constructor
  · rintro ⟨a, b, c, d, e⟩; exact ⟨a, ⟨b, c⟩, d, e⟩
  · rintro ⟨a, ⟨b, c⟩, d, e⟩; exact ⟨a, b, c, d, e⟩
theorem addI_runX (a b c : Int) (h : a + b = c ∧ -9223372036854775808 ≤ c ∧ c ≤ 9223372036854775807) (x y : Operand) (W : World) :
    (do eqGuard BinOp.add 3 x y (.int .i64 a) (.int .i64 b); binOp BinOp.add 3 (.int .i64 a) (.int .i64 b) : Sem Value).run Tryz.prog W = .ok (.int .i64 c) W := by
  obtain ⟨rfl, h1, h2⟩ := h
  have hw : wrap64 (a + b) = a + b := by unfold wrap64; omega
  have hw2 : IntKind.i64.wrap (a + b) = a + b := IntWalk.i64_in _ (by omega)
  go_simp
theorem subI_runX (a b c : Int) (h : a - b = c ∧ -9223372036854775808 ≤ c ∧ c ≤ 9223372036854775807) (x y : Operand) (W : World) :
    (do eqGuard BinOp.sub 3 x y (.int .i64 a) (.int .i64 b); binOp BinOp.sub 3 (.int .i64 a) (.int .i64 b) : Sem Value).run Tryz.prog W = .ok (.int .i64 c) W := by
  obtain ⟨rfl, h1, h2⟩ := h
  have hw : wrap64 (a - b) = a - b := by unfold wrap64; omega
  have hw2 : IntKind.i64.wrap (a - b) = a - b := IntWalk.i64_in _ (by omega)
  go_simp
theorem eqI_boolX (a b : Int) (c : Bool) (h : (a == b) = c) (x y : Operand) (W : World) :
    (do eqGuard BinOp.eql 3 x y (.int .i64 a) (.int .i64 b); binOp BinOp.eql 3 (.int .i64 a) (.int .i64 b) : Sem Value).run Tryz.prog W = .ok (.bool c) W := by
  subst h
  go_simp
theorem eqB_sameX (c : Bool) (x y : Operand) (W : World) :
    (do eqGuard BinOp.eql 4 x y (.bool c) (.bool c); binOp BinOp.eql 4 (.bool c) (.bool c) : Sem Value).run Tryz.prog W = .ok (.bool true) W := by
  cases c <;> go_simp
theorem rtime5 (w : World) : Calls Tryz.prog 19 #[.int .i64 5] w fun e w' => e = .returned (.bool true) ∧ w = w' := by
  go_enter Tryz.func19, Tryz.ntmps19
  go_wp2
  go_ret
  exact ⟨rfl, rfl⟩
theorem enter_rtimeX (a : Value) (w : World) : (callFunc 19 #[a]).run Tryz.prog w = .ok (.enter 19 #[a]) w := by kernel_rfl
theorem enter_flenX (a : Value) (w : World) : (callFunc 32 #[a]).run Tryz.prog w = .ok (.enter 32 #[a]) w := by kernel_rfl
theorem enter_awakeX (w : World) : (callFunc 25 #[]).run Tryz.prog w = .ok (.enter 25 #[]) w := by kernel_rfl
theorem mv_5 {t : TupD} (g a b : Int) (d : Bool) (hb : 0 ≤ b ∧ b ≤ 1099511627776) (hab : a ≤ b) : ∃ rs M', keepR [⟨t, 2, g, a⟩] 4 ⟨t, 2, g, b⟩ d = rs ∧ keepM [⟨t, 2, g, a⟩] 4 ⟨t, 2, g, b⟩ d = M' ∧ ((rs.length : Int) == 1) = d ∧ (M'.length : Int) = 1 - (rs.length : Int) := by
  cases d with
  | false => exact ⟨_, _, (mv_3 g a b hb hab).1, (mv_3 g a b hb hab).2, rfl, rfl⟩
  | true => exact ⟨_, _, (mv_4 g a b).1, (mv_4 g a b).2, rfl, rfl⟩
theorem enter_rsameR (a b : Value) (w : World) : (callFunc 34 #[a, b]).run Tryz.prog w = .ok (.enter 34 #[a, b]) w := by kernel_rfl
/-- A block that a table and a chooser don't touch. -/
def OffW (w : World) (g : Nat) (h : FH) (C : Nat) (ab : Option Addr) (lb G B : Nat) : Prop := B < w.heap.size ∧ Off g h C ab lb G B
section
variable {w1 w2 : World} {g : Nat} {h h' : FH} {C : Nat} {ab a2 : Option Addr} {lb l2 G G2 B : Nat} {S : Nat → Prop}
theorem OffW.still (o : OffW w1 g h C ab lb G B) (t : Touch w1 w2 S) : OffW w2 g h C ab lb G B := ⟨Nat.lt_of_lt_of_le o.1 t.size, o.2⟩
theorem OffW.step (o : OffW w1 g h C ab lb G B) (f : ∀ B, B < w1.heap.size → Off g h C ab lb G B → Off g h' C ab lb G B) (t : Touch w1 w2 S) : OffW w2 g h' C ab lb G B := ⟨Nat.lt_of_lt_of_le o.1 t.size, f B o.1 o.2⟩
theorem OffW.set (o : OffW w1 g h C ab lb G B) (t : Touch w1 w2 S) (hb : ∀ x, a2 = some x → w1.heap.size ≤ x.block) (hG : w1.heap.size ≤ G2) : OffW w2 g h C a2 l2 G2 B :=
  ⟨Nat.lt_of_lt_of_le o.1 t.size, o.2.1, o.2.2.1, .inr (fun x hx e => by have := hb x hx; have := o.1; omega), fun e => by have := o.1; omega⟩
end
theorem mayT23X (k : TupD) (w : World) : Calls Tryz.prog 26 #[.agg (tcs k)] w fun e w' => e = .returned (.bool (mayTB k)) ∧ Touch w w' (fun _ => False) := by
  rw [← mayB_kX]; exact may_any (kOf k) w
set_option maxRecDepth 20000 in
set_option maxHeartbeats 16000000 in
theorem moves23_walk (t : TupD) (ot : TupOk t) (x : Int) (w : World) : Calls Tryz.prog 8 #[.agg (tcs t), .int .i64 x] w fun e w' => e = .returned (.bool true) ∧ Touch w w' (fun _ => False) := by
  obtain ⟨W1, hW1⟩ : ∃ W, w.alloc (.cells (tcs t) 37) = W := ⟨_, rfl⟩
  have t1 : Touch w W1 (fun _ => False) := hW1 ▸ (Touch.refl w _).alloc _
  have g1 : W1.heap[w.heap.size]? = some (.cells (tcs t) 37 (0, 0)) := hW1 ▸ heap_alloc_new ..
  obtain ⟨KB, hKB⟩ : ∃ K, w.heap.size = K := ⟨_, rfl⟩
  rw [hKB] at g1
  have HT1 := Lib.hid t1
  have HKB : RowKit.Hid (∀ W, Touch W1 W (fun _ => False) → W.cell? ⟨KB, 0, none⟩ = some (.int .u32 t.src) ∧ W.cell? ⟨KB, 1, none⟩ = some (.int .u32 t.dst) ∧ W.cell? ⟨KB, 2, none⟩ = some (.int .i64 t.proto) ∧ W.cell? ⟨KB, 3, none⟩ = some (.int .i64 t.sport) ∧ W.cell? ⟨KB, 4, none⟩ = some (.int .i64 t.dport)) := Lib.hid (fun W x => by
    have h := x.keeps g1 (fun h => h)
    exact ⟨cell_of_cells h 0, cell_of_cells h 1, cell_of_cells h 2, cell_of_cells h 3, cell_of_cells h 4⟩)
  have HG1 := Lib.hid g1
  have HW1 := Lib.hid (And.intro hW1 hKB)
  have HCFG := Lib.hid (fun W => config_any (4 : Int) W)
  simp only [cfg23, cfgC] at HCFG
  obtain ⟨N, hN, hN1⟩ := modG x 1000000 (by decide) (by decide)
  have HGN := Lib.hid hN
  have HGB := Lib.hid hN1
  have hMT := mayT23X t W1
  obtain ⟨mt, hmt⟩ : ∃ b, mayTB t = b := ⟨_, rfl⟩
  rw [hmt] at hMT
  have HMC := Lib.hid hMT
  simp only [tcs] at HMC
  clear t1 g1 hW1 hKB hN hN1 hMT
  go_enter Tryz.func8, Tryz.ntmps8
  go_upto_region 1 with (fail)
  rw [HW1.out.1, HW1.out.2]
  obtain ⟨q0, q1, q2, q3, q4⟩ := HKB.out W1 (Touch.refl _ _)
  cases mt with
  | false =>
    go_wp2_with fail
    (with_reducible refine HMC.out.mono ?_)
    rintro e w5 ⟨rfl, t5⟩
    have HT5 := Lib.hid t5
    clear t5
    go_wp2_with fail
    refine (awake23 w5).mono ?_
    rintro e w7 ⟨rfl, t7⟩
    have HT7 := Lib.hid (HT1.out.trans (HT5.out.trans t7 (fun _ _ h => h)) (fun _ _ h => h))
    clear t7
    go_wp2_with fail
    go_ret
    exact ⟨rfl, HT7.out⟩
  | true =>
    have HMT := Lib.hid hmt
    clear hmt
    go_wp2_with fail
    (with_reducible refine HMC.out.mono ?_)
    rintro e w5 ⟨rfl, t5⟩
    have HT5 := Lib.hid t5
    clear t5 q0 q1 q2 q3 q4
    go_upto_region 4 with (fail)
    rw [HGN.out]
    go_wp2_with fail
    refine (fnew_any w5 4 100).mono ?_
    rintro e w0 ⟨g, h, rfl, n0, t0, f0⟩
    have n0' : FS w0 g h 4 100 [] := n0
    have N0 := Lib.hid (FN.mk n0' t0 f0)
    clear n0 n0' t0 f0
    go_wp2_with fail
    refine (new_off 13 w0 prm13).mono ?_
    rintro e w1 ⟨C, G0, rfl, hc, hC, hG, hi, t1⟩
    have HPW0 : RowKit.Hid (PW w5 w1 g h 4 100 [] C 13 [] (tabF [] 13) none 0 0 G0 0) := Lib.hid (PW.fresh N0.out (by omega) t1 hc hC hG hi)
    have HCw : RowKit.Hid (w5.heap.size ≤ C) := Lib.hid (Nat.le_trans N0.out.t.size hC)
    clear hi t1 hc hC hG N0
    obtain ⟨wa, hwa⟩ : ∃ W, w1.alloc (.cells #[.int .i64 1, .int .u32 1, .int .i64 1] 70) = W := ⟨_, rfl⟩
    obtain ⟨wb, hwb⟩ : ∃ W, wa.alloc (.cells #[.int .i64 2, .int .u32 2, .int .i64 1] 70) = W := ⟨_, rfl⟩
    have HK1 : RowKit.Hid (RowK wa (some ⟨w1.heap.size, 0, none⟩) 1 1 [bk1]) := Lib.hid
      (hwa ▸ ((OwnS.lit w1 w1.heap.size (Nat.le_refl _) 70 3 1 ([bk1].map BkD.cells) _ rfl rfl (by simp [bk1, BkD.cells]) (by omega)).row').2.1)
    have HK2 : RowKit.Hid (RowK wb (some ⟨wa.heap.size, 0, none⟩) 1 1 [bk2]) := Lib.hid
      (hwb ▸ ((OwnS.lit wa wa.heap.size (Nat.le_refl _) 70 3 1 ([bk2].map BkD.cells) _ rfl rfl (by simp [bk2, BkD.cells]) (by omega)).row').2.1)
    have ta : Touch w1 wa (fun _ => False) := hwa ▸ (Touch.refl w1 _).alloc _
    have tb : Touch wa wb (fun _ => False) := hwb ▸ (Touch.refl wa _).alloc _
    have sa : wa.heap.size = w1.heap.size + 1 := by rw [← hwa]; simp
    have HPWb := Lib.hid ((HPW0.out.still ta).still tb)
    have HK1b := Lib.hid (HK1.out.still tb)
    obtain ⟨B1, hB1⟩ : ∃ B, w1.heap.size = B := ⟨_, rfl⟩
    have hB2 : wa.heap.size = B1 + 1 := by rw [sa, hB1]
    rw [hB1] at HK1 HK1b
    rw [hB2] at HK2
    have HCB : RowKit.Hid (C < B1) := Lib.hid (by rw [← hB1]; exact HPW0.out.l.1)
    have HWA := Lib.hid (And.intro hwa hB1)
    have HWB := Lib.hid (And.intro hwb hB2)
    have HPWz := Lib.hid HPW0.out
    clear ta tb sa hwa hwb hB1 hB2
    go_upto_region 6 with (fail)
    rw [HWA.out.1, HWB.out.1, HWA.out.2]
    have HTB := Lib.hid (HT5.out.trans HPWb.out.f.t (fun _ _ h => h))
    obtain ⟨q0, q1, q2, q3, q4⟩ := HKB.out wb HTB.out
    obtain ⟨n, hn⟩ : ∃ n, n = 20 + sizeK (kOf t) 0 := ⟨_, rfl⟩
    have HMK := Lib.hid (madeG t ot 0 (.inl rfl) n hn wb)
    have HNZ := Lib.hid hn
    simp only [tcs] at HMK
    clear hn
    go_wp2_with fail
    (with_reducible refine HMK.out.mono ?_)
    rintro e w2 ⟨ma, mc, rfl, hfb⟩
    have HROW := Lib.hid hfb.row'.2
    have HFB := Lib.hid hfb
    have HPW2 := Lib.hid (HPWb.out.still hfb.2)
    have HK12 := Lib.hid (HK1b.out.still hfb.2)
    have HK22 := Lib.hid (HK2.out.still hfb.2)
    clear hfb q0 q1 q2 q3 q4 HMK
    go_wp2_with fail
    refine (set_out 13 .nilFunc [bk1] C _ _ _ _ _ _ 0 _ 1 1 [bk1] _ prm13 (by omega) HPW2.out.c.hc HK12.out gmay1 (fun x hx => .inr (fun h => by have h9 := HCB.out; cases hx; simp at h; omega)) (fun W t => without_nil _ 1 1 [bk1] W (HK12.out.touch t (fun _ _ => .inr (fun h => h))) (by omega))).mono ?_
    rintro e w3 ⟨rfl, a3, c3, G3, hc3, hk3, hi3, hb3, hG3, t3⟩
    have HPW : RowKit.Hid (PW w5 w3 g h 4 100 [] C 13 [bk1] (tabF [bk1] 13) a3 1 c3 G3 1) := Lib.hid (PW.made HPW2.out.f (by omega) HPW2.out.l.1 HPW2.out.o.1 HCw.out t3 hc3 hk3 hi3 hb3 hG3)
    have HT3 := Lib.hid t3
    have HB3 := Lib.hid (And.intro hb3 hG3)
    clear hc3 hk3 hi3 hb3 hG3 t3
    have hmB : ∃ mB, ma = some ⟨mB, 0, none⟩ ∧ wb.heap.size ≤ mB ∧ mB < w2.heap.size := by
      obtain ⟨a9, c9, hv, -, ha⟩ := HFB.out.1.row
      simp only [Value.slice.injEq] at hv
      obtain ⟨rfl, hn9, rfl⟩ := hv
      rcases ha with rfl | ⟨g9, rfl, h1, h2⟩
      · exfalso
        have h9 := HROW.out
        have h8 := HNZ.out
        rcases h9.2.2.2.2.2 with h7 | ⟨b9, off, e9, _⟩
        · omega
        · cases e9
      · exact ⟨g9, rfl, h1, h2⟩
    obtain ⟨mB, rfl, hm1, hm2⟩ := hmB
    have HMB := Lib.hid (And.intro hm1 hm2)
    have HOM : RowKit.Hid (OffW w3 g h C a3 1 G3 mB) := Lib.hid ⟨Nat.lt_of_lt_of_le hm2 HT3.out.size, (HPWb.out.new mB hm1).1, (HPWb.out.new mB hm1).2.1, .inr (fun x hx e => by have h1 := HB3.out.1 x hx; omega), by have h1 := HB3.out.2; omega⟩
    clear hm1 hm2
    have HROW := Lib.hid (HROW.out.touch HT3.out (fun x hx => .inr (fun e => by have e : x.block = C := e; cases hx; exact HOM.out.2.2.1 e)))
    have HON : RowKit.Hid (OffW w3 g h C a3 1 G3 (B1 + 1)) := Lib.hid (by
      have h0 := (HPWz.out.new (B1 + 1) (by rw [HWA.out.2]; omega))
      have hw : B1 + 1 < w2.heap.size := by
        rcases HK22.out.at_ with h1 | ⟨b9, o9, e9, h1, -⟩
        · cases h1
        · cases e9; exact h1
      exact ⟨Nat.lt_of_lt_of_le hw HT3.out.size, h0.1, h0.2.1, .inr (fun x hx e => by have h1 := HB3.out.1 x hx; omega), by have h1 := HB3.out.2; omega⟩)
    have HK2 := Lib.hid (HK22.out.touch HT3.out (fun x hx => .inr (fun e => by have e : x.block = C := e; cases hx; exact HON.out.2.2.1 e)))
    have hgN : 0 ≤ (N : Int) ∧ (N : Int) ≤ 1000000 := ⟨by omega, by have := HGB.out; omega⟩
    have HMV1 := Lib.hid (mv_1 HMT.out hgN)
    have HMV2 := Lib.hid (mv_2 HMT.out (g := (N : Int)) ⟨by omega, by have := HGB.out; omega⟩)
    have HMV3 := Lib.hid (mv_3 (t := t) ((N : Int) + 1) 3 4 ⟨by decide, by decide⟩ (by decide))
    have hgb : (N : Int) < 1000000 := HGB.out
    clear hgN
    go_upto_region 8 with (fail)
    go_wp2_with fail
    (with_reducible refine (HCFG.out _).mono ?_)
    rintro e pa ⟨rfl, pta⟩
    have HROW := Lib.hid (HROW.out.touch pta (fun _ _ => .inr (fun h => h)))
    have HK2 := Lib.hid (HK2.out.touch pta (fun _ _ => .inr (fun h => h)))
    have HOM := Lib.hid (HOM.out.still pta)
    have HON := Lib.hid (HON.out.still pta)
    have HPW := Lib.hid (HPW.out.still pta)
    have hpp := pktG pa g h [] HPW.out.f.q C bk1 gmay1 ⟨by decide, by decide⟩ a3 1 c3 G3 1 HPW.out.c t ot HMT.out (N : Int) 0 ⟨by decide, by decide⟩ 0 (some ⟨mB, 0, none⟩) n mc HROW.out false (flagX0 t) _ _ HMV1.out.1 HMV1.out.2
    simp only [cfg23, cfgC, planV, bk1, List.length_cons, List.length_nil, Nat.zero_add] at hpp
    have HPp := Lib.hid hpp
    clear pta hpp
    go_wp2_with fail
    (with_reducible refine HPp.out.mono ?_)
    rintro e pd ⟨ppa, ppn, ppc, pqa, pqc, rfl, prow, pnew, ps⟩
    have pst := step_touch ps
    obtain ⟨ph, pM1, ppm, ppw, poff⟩ := HPW.out.step ps
    obtain rfl := List.perm_singleton.1 ppm
    have HROW := Lib.hid (HROW.out.touch pst (fun x hx => .inr (fun e => by cases hx; exact (HOM.out.2.1) e)))
    have HK2 := Lib.hid (HK2.out.touch pst (fun x hx => .inr (fun e => by cases hx; exact (HON.out.2.1) e)))
    have HOM := Lib.hid (HOM.out.step poff pst)
    have HON := Lib.hid (HON.out.step poff pst)
    have HPW := Lib.hid ppw
    obtain ⟨pW, phW⟩ : ∃ W, pd.alloc (.cells (planV 2 0 bk1.id (.slice ppa ppn ppc) (.slice pqa 1 pqc)) 53) = W := ⟨_, rfl⟩
    obtain ⟨Ap, phB⟩ : ∃ B, pd.heap.size = B := ⟨_, rfl⟩
    have pg := phB ▸ phW ▸ heap_alloc_new pd (.cells (planV 2 0 bk1.id (.slice ppa ppn ppc) (.slice pqa 1 pqc)) 53)
    have ptw : Touch pd pW (fun _ => False) := phW ▸ (Touch.refl pd _).alloc _
    have HOp : RowKit.Hid (OffW pW g ph C a3 1 G3 Ap) := Lib.hid ⟨heap_lt pg, HPW.out.new _ (Nat.le_of_eq phB)⟩
    have HROW := Lib.hid (HROW.out.touch ptw (fun _ _ => .inr (fun h => h)))
    have HK2 := Lib.hid (HK2.out.touch ptw (fun _ _ => .inr (fun h => h)))
    have HOM := Lib.hid (HOM.out.still ptw)
    have HON := Lib.hid (HON.out.still ptw)
    have HPW := Lib.hid (HPW.out.still ptw)
    have HPLp := Lib.hid pg
    have HWp := Lib.hid (And.intro phW phB)
    simp only [planV, bk1] at HWp
    clear prow pnew ps pst ppw poff ptw phW phB pg HPp
    go_upto_region 9 with (fail)
    rw [HWp.out.1, HWp.out.2]
    go_wp2_with fail
    refine (set_out 13 .nilFunc [bk2] C _ _ _ _ _ _ 1 _ 1 1 [bk2] _ prm13 (by omega) HPW.out.c.hc HK2.out gmay2 (fun x hx => .inr (fun e => by cases hx; exact HON.out.2.2.1 e)) (fun W t => without_nil _ 1 1 [bk2] W (HK2.out.touch t (fun _ _ => .inr (fun h => h))) (by omega))).mono ?_
    rintro e s4 ⟨rfl, a4, c4, G4, hc4, hk4, hi4, hb4, hG4, t4⟩
    have HROW := Lib.hid (HROW.out.touch t4 (fun x hx => .inr (fun e => by cases hx; exact (fun e => HOM.out.2.2.1 e) e)))
    have HK2 := Lib.hid (HK2.out.touch t4 (fun x hx => .inr (fun e => by cases hx; exact (fun e => HON.out.2.2.1 e) e)))
    have HPLp := Lib.hid (t4.keeps HPLp.out (fun e => HOp.out.2.2.1 e))
    have HOM := Lib.hid (HOM.out.set (l2 := 1) t4 hb4 hG4)
    have HON := Lib.hid (HON.out.set (l2 := 1) t4 hb4 hG4)
    have HOp := Lib.hid (HOp.out.set (l2 := 1) t4 hb4 hG4)
    have HPW : RowKit.Hid (PW w5 s4 g ph 4 100 [⟨t, 1, (N : Int), 0⟩] C 13 [bk2] (tabF [bk2] 13) a4 1 c4 G4 2) := Lib.hid (PW.made HPW.out.f (by omega) HPW.out.l.1 HPW.out.o.1 HCw.out t4 hc4 hk4 hi4 hb4 hG4)
    clear HK2 HON hc4 hk4 hi4 hb4 hG4 t4
    go_upto_region 10 with (fail)
    go_wp2_with fail
    (with_reducible refine (HCFG.out _).mono ?_)
    rintro e qa ⟨rfl, qta⟩
    have HROW := Lib.hid (HROW.out.touch qta (fun _ _ => .inr (fun h => h)))
    have HPLp := Lib.hid (qta.keeps HPLp.out (fun h => h))
    have HOM := Lib.hid (HOM.out.still qta)
    have HOp := Lib.hid (HOp.out.still qta)
    have HPW := Lib.hid (HPW.out.still qta)
    have hpq := pktG qa g ph [⟨t, 1, (N : Int), 0⟩] HPW.out.f.q C bk2 gmay2 ⟨by decide, by decide⟩ a4 1 c4 G4 2 HPW.out.c t ot HMT.out ((N : Int) + 1) 3 ⟨by decide, by decide⟩ 0 (some ⟨mB, 0, none⟩) n mc HROW.out false (flagX0 t) _ _ HMV2.out.1 HMV2.out.2
    simp only [cfg23, cfgC, planV, bk2, List.length_cons, List.length_nil, Nat.zero_add] at hpq
    have HPq := Lib.hid hpq
    clear qta hpq
    go_wp2_with fail
    (with_reducible refine HPq.out.mono ?_)
    rintro e qd ⟨qpa, qpn, qpc, qqa, qqc, rfl, qrow, qnew, qs⟩
    obtain ⟨qB, qo, rfl⟩ := RowS.some qrow (by decide)
    obtain ⟨qnw, cs9, m9, h9⟩ := qnew _ rfl
    have hoR := HPW.out.new qB qnw
    have qst := step_touch qs
    obtain ⟨qh, qM1, qpm, qpw, qoff⟩ := HPW.out.step qs
    obtain rfl := List.perm_singleton.1 qpm
    have HROW := Lib.hid (HROW.out.touch qst (fun x hx => .inr (fun e => by cases hx; exact (HOM.out.2.1) e)))
    have HPLp := Lib.hid (qst.keeps HPLp.out (HOp.out.2.1))
    have HOM := Lib.hid (HOM.out.step qoff qst)
    have HOp := Lib.hid (HOp.out.step qoff qst)
    have HPW := Lib.hid qpw
    have HOR : RowKit.Hid (OffW qd g qh C a4 1 G4 qB) := Lib.hid ⟨heap_lt h9, HPW.out.f.q.notRec h9, hoR.2⟩
    clear hoR h9 qnw
    have HREC := Lib.hid qrow
    obtain ⟨qW, qhW⟩ : ∃ W, qd.alloc (.cells (planV 2 0 bk2.id (.slice qpa qpn qpc) (.slice (some ⟨qB, qo, none⟩) 1 qqc)) 53) = W := ⟨_, rfl⟩
    obtain ⟨Aq, qhB⟩ : ∃ B, qd.heap.size = B := ⟨_, rfl⟩
    have qg := qhB ▸ qhW ▸ heap_alloc_new qd (.cells (planV 2 0 bk2.id (.slice qpa qpn qpc) (.slice (some ⟨qB, qo, none⟩) 1 qqc)) 53)
    have qtw : Touch qd qW (fun _ => False) := qhW ▸ (Touch.refl qd _).alloc _
    have HOq : RowKit.Hid (OffW qW g qh C a4 1 G4 Aq) := Lib.hid ⟨heap_lt qg, HPW.out.new _ (Nat.le_of_eq qhB)⟩
    have HROW := Lib.hid (HROW.out.touch qtw (fun _ _ => .inr (fun h => h)))
    have HPLp := Lib.hid (qtw.keeps HPLp.out (fun h => h))
    have HREC := Lib.hid (HREC.out.touch qtw (fun _ _ => .inr (fun h => h)))
    have HOM := Lib.hid (HOM.out.still qtw)
    have HOp := Lib.hid (HOp.out.still qtw)
    have HOR := Lib.hid (HOR.out.still qtw)
    have HPW := Lib.hid (HPW.out.still qtw)
    have HPLq := Lib.hid qg
    have HWq := Lib.hid (And.intro qhW qhB)
    simp only [planV, bk2] at HWq
    clear qrow qnew qs qst qpw qoff qtw qhW qhB qg HPq
    go_upto_region 11 with (fail)
    rw [HWq.out.1, HWq.out.2]
    go_wp2_with fail
    (with_reducible refine (HCFG.out _).mono ?_)
    rintro e ra ⟨rfl, rta⟩
    have HROW := Lib.hid (HROW.out.touch rta (fun _ _ => .inr (fun h => h)))
    have HPLp := Lib.hid (rta.keeps HPLp.out (fun h => h))
    have HREC := Lib.hid (HREC.out.touch rta (fun _ _ => .inr (fun h => h)))
    have HPLq := Lib.hid (rta.keeps HPLq.out (fun h => h))
    have HOM := Lib.hid (HOM.out.still rta)
    have HOp := Lib.hid (HOp.out.still rta)
    have HOR := Lib.hid (HOR.out.still rta)
    have HOq := Lib.hid (HOq.out.still rta)
    have HPW := Lib.hid (HPW.out.still rta)
    have hpr := pktG ra g qh [⟨t, 2, (N : Int) + 1, 3⟩] HPW.out.f.q C bk2 gmay2 ⟨by decide, by decide⟩ a4 1 c4 G4 2 HPW.out.c t ot HMT.out ((N : Int) + 1) 4 ⟨by decide, by decide⟩ 0 (some ⟨mB, 0, none⟩) n mc HROW.out false (flagX0 t) _ _ HMV3.out.1 HMV3.out.2
    simp only [cfg23, cfgC, planV, bk2, List.length_cons, List.length_nil, Nat.zero_add] at hpr
    have HPr := Lib.hid hpr
    clear rta hpr
    go_wp2_with fail
    (with_reducible refine HPr.out.mono ?_)
    rintro e rd ⟨rpa, rpn, rpc, rqa, rqc, rfl, rrow, rnew, rs⟩
    have rst := step_touch rs
    obtain ⟨rh, rM1, rpm, rpw, roff⟩ := HPW.out.step rs
    obtain rfl := List.perm_singleton.1 rpm
    have HROW := Lib.hid (HROW.out.touch rst (fun x hx => .inr (fun e => by cases hx; exact (HOM.out.2.1) e)))
    have HPLp := Lib.hid (rst.keeps HPLp.out (HOp.out.2.1))
    have HREC := Lib.hid (HREC.out.touch rst (fun x hx => .inr (fun e => by cases hx; exact (HOR.out.2.1) e)))
    have HPLq := Lib.hid (rst.keeps HPLq.out (HOq.out.2.1))
    have HOM := Lib.hid (HOM.out.step roff rst)
    have HOp := Lib.hid (HOp.out.step roff rst)
    have HOR := Lib.hid (HOR.out.step roff rst)
    have HOq := Lib.hid (HOq.out.step roff rst)
    have HPW := Lib.hid rpw
    obtain ⟨rW, rhW⟩ : ∃ W, rd.alloc (.cells (planV 2 0 bk2.id (.slice rpa rpn rpc) (.slice rqa 0 rqc)) 53) = W := ⟨_, rfl⟩
    obtain ⟨Ar, rhB⟩ : ∃ B, rd.heap.size = B := ⟨_, rfl⟩
    have rg := rhB ▸ rhW ▸ heap_alloc_new rd (.cells (planV 2 0 bk2.id (.slice rpa rpn rpc) (.slice rqa 0 rqc)) 53)
    have rtw : Touch rd rW (fun _ => False) := rhW ▸ (Touch.refl rd _).alloc _
    have HOr : RowKit.Hid (OffW rW g rh C a4 1 G4 Ar) := Lib.hid ⟨heap_lt rg, HPW.out.new _ (Nat.le_of_eq rhB)⟩
    have HROW := Lib.hid (HROW.out.touch rtw (fun _ _ => .inr (fun h => h)))
    have HPLp := Lib.hid (rtw.keeps HPLp.out (fun h => h))
    have HREC := Lib.hid (HREC.out.touch rtw (fun _ _ => .inr (fun h => h)))
    have HPLq := Lib.hid (rtw.keeps HPLq.out (fun h => h))
    have HOM := Lib.hid (HOM.out.still rtw)
    have HOp := Lib.hid (HOp.out.still rtw)
    have HOR := Lib.hid (HOR.out.still rtw)
    have HOq := Lib.hid (HOq.out.still rtw)
    have HPW := Lib.hid (HPW.out.still rtw)
    have HPLr := Lib.hid rg
    have HWr := Lib.hid (And.intro rhW rhB)
    simp only [planV, bk2] at HWr
    clear rrow rnew rs rst rpw roff rtw rhW rhB rg HPr
    go_upto_region 12 with (fail)
    rw [HWr.out.1, HWr.out.2]
    obtain ⟨q0, q1, q2, q3, q4⟩ := HKB.out rW (HT5.out.trans HPW.out.f.t (fun _ _ h => h))
    have hgt := fget_any rW g rh 4 100 [⟨t, 2, (N : Int) + 1, 4⟩] HPW.out.f.q t ot
    rw [show getF [(⟨t, 2, (N : Int) + 1, 4⟩ : FlD)] t = _ from getF_one ⟨t, 2, (N : Int) + 1, 4⟩, show hasF [(⟨t, 2, (N : Int) + 1, 4⟩ : FlD)] t = true from hasF_one ⟨t, 2, (N : Int) + 1, 4⟩] at hgt
    simp only [fca, tcs] at hgt
    have HGT := Lib.hid hgt
    clear hgt
    go_wp2_with fail
    (with_reducible refine HGT.out.mono ?_)
    rintro e f9 ⟨rfl, t9⟩
    have HROW := Lib.hid (HROW.out.touch t9 (fun _ _ => .inr (fun h => h)))
    have HPLp := Lib.hid (t9.keeps HPLp.out (fun h => h))
    have HREC := Lib.hid (HREC.out.touch t9 (fun _ _ => .inr (fun h => h)))
    have HPLq := Lib.hid (t9.keeps HPLq.out (fun h => h))
    have HPLr := Lib.hid (t9.keeps HPLr.out (fun h => h))
    have HOM := Lib.hid (HOM.out.still t9)
    have HOp := Lib.hid (HOp.out.still t9)
    have HOR := Lib.hid (HOR.out.still t9)
    have HOq := Lib.hid (HOq.out.still t9)
    have HOr := Lib.hid (HOr.out.still t9)
    have HPW := Lib.hid (HPW.out.still t9)
    obtain ⟨fW, hfW⟩ : ∃ W, f9.alloc (.cells (fca ⟨t, 2, (N : Int) + 1, 4⟩) 83) = W := ⟨_, rfl⟩
    obtain ⟨AF, hAF⟩ : ∃ B, f9.heap.size = B := ⟨_, rfl⟩
    have fg := hAF ▸ hfW ▸ heap_alloc_new f9 (.cells (fca ⟨t, 2, (N : Int) + 1, 4⟩) 83)
    have ft : Touch f9 fW (fun _ => False) := hfW ▸ (Touch.refl f9 _).alloc _
    have HROW := Lib.hid (HROW.out.touch ft (fun _ _ => .inr (fun h => h)))
    have HPLp := Lib.hid (ft.keeps HPLp.out (fun h => h))
    have HREC := Lib.hid (HREC.out.touch ft (fun _ _ => .inr (fun h => h)))
    have HPLq := Lib.hid (ft.keeps HPLq.out (fun h => h))
    have HPLr := Lib.hid (ft.keeps HPLr.out (fun h => h))
    have HOM := Lib.hid (HOM.out.still ft)
    have HOp := Lib.hid (HOp.out.still ft)
    have HOR := Lib.hid (HOR.out.still ft)
    have HOq := Lib.hid (HOq.out.still ft)
    have HOr := Lib.hid (HOr.out.still ft)
    have HPW := Lib.hid (HPW.out.still ft)
    have HFL := Lib.hid fg
    have HWf := Lib.hid (And.intro hfW hAF)
    simp only [fca] at HWf
    clear t9 ft hfW hAF fg HGT q0 q1 q2 q3 q4
    go_upto_region 13 with (fail)
    rw [HWf.out.1, HWf.out.2]
    have p2 : fW.cell? ⟨Ap, 2, none⟩ = some (.int .i64 1) := cell_of_cells HPLp.out 2
    have p4 : fW.cell? ⟨Ap, 4, none⟩ = some (.slice pqa 1 pqc) := cell_of_cells HPLp.out 4
    have y2 : fW.cell? ⟨Aq, 2, none⟩ = some (.int .i64 2) := cell_of_cells HPLq.out 2
    have y4 : fW.cell? ⟨Aq, 4, none⟩ = some (.slice (some ⟨qB, qo, none⟩) 1 qqc) := cell_of_cells HPLq.out 4
    have r2 : fW.cell? ⟨Ar, 2, none⟩ = some (.int .i64 2) := cell_of_cells HPLr.out 2
    have r4 : fW.cell? ⟨Ar, 4, none⟩ = some (.slice rqa 0 rqc) := cell_of_cells HPLr.out 4
    go_upto_region 15 with (fail)
    clear p2 p4 y2 y4 r2 r4
    obtain ⟨q0, q1, q2, q3, q4⟩ := HKB.out fW (HT5.out.trans HPW.out.f.t (fun _ _ h => h))
    obtain ⟨wW, hwW⟩ : ∃ W, fW.alloc (.cells (fca ⟨t, 2, (N : Int) + 1, 3⟩) 83) = W := ⟨_, rfl⟩
    obtain ⟨AW, hAW⟩ : ∃ B, fW.heap.size = B := ⟨_, rfl⟩
    have wg := hAW ▸ hwW ▸ heap_alloc_new fW (.cells (fca ⟨t, 2, (N : Int) + 1, 3⟩) 83)
    have wt : Touch fW wW (fun _ => False) := hwW ▸ (Touch.refl fW _).alloc _
    have HROW := Lib.hid (HROW.out.touch wt (fun _ _ => .inr (fun h => h)))
    have HPLp := Lib.hid (wt.keeps HPLp.out (fun h => h))
    have HREC := Lib.hid (HREC.out.touch wt (fun _ _ => .inr (fun h => h)))
    have HPLq := Lib.hid (wt.keeps HPLq.out (fun h => h))
    have HPLr := Lib.hid (wt.keeps HPLr.out (fun h => h))
    have HOM := Lib.hid (HOM.out.still wt)
    have HOp := Lib.hid (HOp.out.still wt)
    have HOR := Lib.hid (HOR.out.still wt)
    have HOq := Lib.hid (HOq.out.still wt)
    have HOr := Lib.hid (HOr.out.still wt)
    have HPW := Lib.hid (HPW.out.still wt)
    have HFL := Lib.hid (wt.keeps HFL.out (fun h => h))
    have HWL := Lib.hid wg
    have HWw := Lib.hid (And.intro hwW hAW)
    simp only [fca] at HWw
    clear wt hwW hAW wg
    go_upto_region 16 with (fail)
    rw [HWw.out.1, HWw.out.2]
    clear q0 q1 q2 q3 q4
    have hqc := RowS.hcap HREC.out
    have hqm := RowS.hmax HREC.out
    have HCF : RowKit.Hid (∀ W, Touch wW W (fun _ => False) → W.cell? ⟨AF, 5, none⟩ = some (.int .i64 2) ∧ W.cell? ⟨AF, 6, none⟩ = some (.int .i64 ((N : Int) + 1)) ∧ W.cell? ⟨AF, 7, none⟩ = some (.int .i64 4)) := Lib.hid (fun W t => ⟨cell_of_cells (t.keeps HFL.out (fun h => h)) 5, cell_of_cells (t.keeps HFL.out (fun h => h)) 6, cell_of_cells (t.keeps HFL.out (fun h => h)) 7⟩)
    have HCQ : RowKit.Hid (∀ W, Touch wW W (fun _ => False) → W.cell? ⟨Aq, 4, none⟩ = some (.slice (some ⟨qB, qo, none⟩) 1 qqc)) := Lib.hid (fun W t => cell_of_cells (t.keeps HPLq.out (fun h => h)) 4)
    have HCR : RowKit.Hid (∀ W, Touch wW W (fun _ => False) → W.cell? ⟨qB, qo, none⟩ = some (.int .i64 1) ∧ W.cell? ⟨qB, qo + 1, none⟩ = some (.int .u32 t.src) ∧ W.cell? ⟨qB, qo + 2, none⟩ = some (.int .u32 t.dst) ∧ W.cell? ⟨qB, qo + 3, none⟩ = some (.int .i64 t.proto) ∧ W.cell? ⟨qB, qo + 4, none⟩ = some (.int .i64 t.sport) ∧ W.cell? ⟨qB, qo + 5, none⟩ = some (.int .i64 t.dport) ∧ W.cell? ⟨qB, qo + 6, none⟩ = some (.int .i64 2) ∧ W.cell? ⟨qB, qo + 7, none⟩ = some (.int .i64 ((N : Int) + 1)) ∧ W.cell? ⟨qB, qo + 8, none⟩ = some (.int .i64 3) ∧ W.cell? ⟨qB, qo + 9, none⟩ = some (.int .i64 0) ∧ W.cell? ⟨qB, qo + 10, none⟩ = some (.slice none 0 0) ∧ W.cell? ⟨qB, qo + 11, none⟩ = some (.int .i64 0) ∧ W.cell? ⟨qB, qo + 12, none⟩ = some (.int .i64 0) ∧ W.cell? ⟨qB, qo + 13, none⟩ = some (.int .i64 0)) := Lib.hid (fun W x => by
      have h := RowS.still HREC.out x
      have c := fun j u hu => h.cell 0 (by simp) j u hu
      simp only [Nat.zero_mul, Nat.add_zero] at c
      exact ⟨c 0 _ rfl, c 1 _ rfl, c 2 _ rfl, c 3 _ rfl, c 4 _ rfl, c 5 _ rfl, c 6 _ rfl, c 7 _ rfl, c 8 _ rfl, c 9 _ rfl, c 10 _ rfl, c 11 _ rfl, c 12 _ rfl, c 13 _ rfl⟩)
    have HCW : RowKit.Hid (∀ W, Touch wW W (fun _ => False) → W.heap[AW]? = some (.cells (fca ⟨t, 2, (N : Int) + 1, 3⟩) 83 (0, 0))) := Lib.hid (fun W t => t.keeps HWL.out (fun h => h))
    simp only [fca] at HCW
    have hsr : sameR (recF 1 ⟨t, 2, (N : Int) + 1, 3⟩) (recF 1 ⟨t, 2, (N : Int) + 1, 3⟩) = true := (sameR_iff _ _).2 rfl
    have HSR := Lib.hid (fun W => hsr ▸ rsame_any (recF 1 ⟨t, 2, (N : Int) + 1, 3⟩) none 0 (recF 1 ⟨t, 2, (N : Int) + 1, 3⟩) none 0 W (RowS.nil _ _ _ _ (by omega)) (by simp [recF]) (RowS.nil _ _ _ _ (by omega)) (by simp [recF]))
    simp only [rcs, recF, List.length_nil] at HSR
    clear hsr
    have HPWK := Lib.hid HPW.out
    go_cut [131] (fun s wx => s = .bool false ∧ Touch wW wx (fun _ => False))
    case first =>
      go_wp2_with fail
      have hS := (Touch.refl wW (fun _ => False)).drew
      refine wp_region_sched (fun w' => Touch wW w' (fun _ => False)) [(0, true), (1, true), (2, true), (3, true), (4, true), (5, true), (6, true), (7, true), (8, true), (9, true), (10, true), (11, true), (12, true), (13, true), (14, true), (15, true), (16, true), (17, true), (18, true), (19, true), (20, true), (21, true), (22, true), (23, true), (24, true), (25, true), (26, false), (27, true), (28, true)] (by kernel_rfl) (by kernel_rfl) rfl (by kernel_rfl) hS ?_
      (refine walkS_take (v := ?_) (some 103) rfl rfl (fun _ _ _ h => h) (by rfl) ?_ ?_; rotate_left; (focus (intro w' hw'; go_simp; (try with_reducible rfl))); (try simp only [Act.put, List.setIfInBounds_toArray, List.set_cons_zero, List.set_cons_succ]))
      (refine walkS_take (v := ?_) (some 104) rfl rfl (fun _ _ _ h => h) (by rfl) ?_ ?_; rotate_left; (focus (intro w' hw'; go_simp; (try with_reducible rfl))); (try simp only [Act.put, List.setIfInBounds_toArray, List.set_cons_zero, List.set_cons_succ]))
      (refine walkS_take (v := ?_) (some 105) rfl rfl (fun _ _ _ h => h) (by rfl) ?_ ?_; rotate_left; (focus (intro w' hw'; go_simp; (try with_reducible rfl))); (try simp only [Act.put, List.setIfInBounds_toArray, List.set_cons_zero, List.set_cons_succ]))
      (refine walkS_take (v := ?_) (some 106) rfl rfl (fun _ _ _ h => h) (by rfl) ?_ ?_; rotate_left; (focus (intro w' hw'; go_simp; (try with_reducible rfl))); (try simp only [Act.put, List.setIfInBounds_toArray, List.set_cons_zero, List.set_cons_succ]))
      (refine walkS_take (v := ?_) (some 107) rfl rfl (fun _ _ _ h => h) (by rfl) ?_ ?_; rotate_left; (focus (intro w' hw'; obtain ⟨y5, y6, y7⟩ := HCF.out w' hw'; go_simp; (try with_reducible rfl))); (try simp only [Act.put, List.setIfInBounds_toArray, List.set_cons_zero, List.set_cons_succ]))
      (refine walkS_take (v := ?_) (some 108) rfl rfl (fun _ _ _ h => h) (by rfl) ?_ ?_; rotate_left; (focus (intro w' hw'; go_simp; (try with_reducible rfl))); (try simp only [Act.put, List.setIfInBounds_toArray, List.set_cons_zero, List.set_cons_succ]))
      (refine walkS_take (v := ?_) (some 109) rfl rfl (fun _ _ _ h => h) (by rfl) ?_ ?_; rotate_left; (focus (intro w' hw'; go_simp; (try with_reducible rfl))); (try simp only [Act.put, List.setIfInBounds_toArray, List.set_cons_zero, List.set_cons_succ]))
      (refine walkS_take (v := ?_) (some 110) rfl rfl (fun _ _ _ h => h) (by rfl) ?_ ?_; rotate_left; (focus (intro w' hw'; go_simp; (try with_reducible rfl))); (try simp only [Act.put, List.setIfInBounds_toArray, List.set_cons_zero, List.set_cons_succ]))
      (refine walkS_take (v := ?_) (some 111) rfl rfl (fun _ _ _ h => h) (by rfl) ?_ ?_; rotate_left; (focus (intro w' hw'; go_simp; (try with_reducible rfl))); (try simp only [Act.put, List.setIfInBounds_toArray, List.set_cons_zero, List.set_cons_succ]))
      (refine walkS_take (v := ?_) (some 112) rfl rfl (fun _ _ _ h => h) (by rfl) ?_ ?_; rotate_left; (focus (intro w' hw'; obtain ⟨y5, y6, y7⟩ := HCF.out w' hw'; go_simp; (try with_reducible rfl))); (try simp only [Act.put, List.setIfInBounds_toArray, List.set_cons_zero, List.set_cons_succ]))
      (refine walkS_take (v := ?_) (some 113) rfl rfl (fun _ _ _ h => h) (by rfl) ?_ ?_; rotate_left; (focus (intro w' hw'; go_simp; (try with_reducible rfl))); (try simp only [Act.put, List.setIfInBounds_toArray, List.set_cons_zero, List.set_cons_succ]))
      (refine walkS_bin (some 114) _ _ _ _ _ _ _ _ (addI_runX _ _ ((N : Int) + 1) ⟨rfl, by omega, by omega⟩) rfl rfl rfl rfl rfl (fun _ _ _ h => h) (by rfl) ?_; (try simp only [Act.put, List.setIfInBounds_toArray, List.set_cons_zero, List.set_cons_succ]))
      (refine walkS_take (v := ?_) (some 115) rfl rfl (fun _ _ _ h => h) (by rfl) ?_ ?_; rotate_left; (focus (intro w' hw'; go_simp; (try with_reducible rfl))); (try simp only [Act.put, List.setIfInBounds_toArray, List.set_cons_zero, List.set_cons_succ]))
      (refine walkS_take (v := ?_) (some 116) rfl rfl (fun _ _ _ h => h) (by rfl) ?_ ?_; rotate_left; (focus (intro w' hw'; go_simp; (try with_reducible rfl))); (try simp only [Act.put, List.setIfInBounds_toArray, List.set_cons_zero, List.set_cons_succ]))
      (refine walkS_take (v := ?_) (some 117) rfl rfl (fun _ _ _ h => h) (by rfl) ?_ ?_; rotate_left; (focus (intro w' hw'; go_simp; (try with_reducible rfl))); (try simp only [Act.put, List.setIfInBounds_toArray, List.set_cons_zero, List.set_cons_succ]))
      (refine walkS_take (v := ?_) (some 118) rfl rfl (fun _ _ _ h => h) (by rfl) ?_ ?_; rotate_left; (focus (intro w' hw'; go_simp; (try with_reducible rfl))); (try simp only [Act.put, List.setIfInBounds_toArray, List.set_cons_zero, List.set_cons_succ]))
      (refine walkS_take (v := ?_) (some 119) rfl rfl (fun _ _ _ h => h) (by rfl) ?_ ?_; rotate_left; (focus (intro w' hw'; obtain ⟨y5, y6, y7⟩ := HCF.out w' hw'; go_simp; (try with_reducible rfl))); (try simp only [Act.put, List.setIfInBounds_toArray, List.set_cons_zero, List.set_cons_succ]))
      (refine walkS_take (v := ?_) (some 120) rfl rfl (fun _ _ _ h => h) (by rfl) ?_ ?_; rotate_left; (focus (intro w' hw'; go_simp; (try with_reducible rfl))); (try simp only [Act.put, List.setIfInBounds_toArray, List.set_cons_zero, List.set_cons_succ]))
      (refine walkS_take (v := ?_) (some 121) rfl rfl (fun _ _ _ h => h) (by rfl) ?_ ?_; rotate_left; (focus (intro w' hw'; go_simp; (try with_reducible rfl))); (try simp only [Act.put, List.setIfInBounds_toArray, List.set_cons_zero, List.set_cons_succ]))
      (refine walkS_take (v := ?_) (some 122) rfl rfl (fun _ _ _ h => h) (by rfl) ?_ ?_; rotate_left; (focus (intro w' hw'; go_simp; (try with_reducible rfl))); (try simp only [Act.put, List.setIfInBounds_toArray, List.set_cons_zero, List.set_cons_succ]))
      (refine walkS_take (v := ?_) (some 123) rfl rfl (fun _ _ _ h => h) (by rfl) ?_ ?_; rotate_left; (focus (intro w' hw'; go_simp; (try with_reducible rfl))); (try simp only [Act.put, List.setIfInBounds_toArray, List.set_cons_zero, List.set_cons_succ]))
      (refine walkS_take (v := ?_) (some 124) rfl rfl (fun _ _ _ h => h) (by rfl) ?_ ?_; rotate_left; (focus (intro w' hw'; have y := HCQ.out w' hw'; go_simp; (try with_reducible rfl))); (try simp only [Act.put, List.setIfInBounds_toArray, List.set_cons_zero, List.set_cons_succ]))
      (refine walkS_take (v := ?_) (some 125) rfl rfl (fun _ _ _ h => h) (by rfl) ?_ ?_; rotate_left; (focus (intro w' hw'; go_simp; (try with_reducible rfl))); (try simp only [Act.put, List.setIfInBounds_toArray, List.set_cons_zero, List.set_cons_succ]))
      (refine walkS_take (v := ?_) (some 126) rfl rfl (fun _ _ _ h => h) (by rfl) ?_ ?_; rotate_left; (focus (intro w' hw'; obtain ⟨y0, y1, y2, y3, y4, y5, y6, y7, y8, y9, y10, y11, y12, y13⟩ := HCR.out w' hw'; go_simp; (try with_reducible rfl))); (try simp only [Act.put, List.setIfInBounds_toArray, List.set_cons_zero, List.set_cons_succ]))
      (refine walkS_row (some 127) rfl rfl 83 (.tmp 15) rfl (AW) rfl _ _ _ _ (fun w' h => HCW.out w' h) Tryz.underlying83 rfl infoFlow (fun _ _ _ h => h) (by rfl) ?_; (try simp only [Act.put, List.setIfInBounds_toArray, List.set_cons_zero, List.set_cons_succ]))
      (refine walkS_take (v := ?_) (some 128) rfl rfl (fun _ _ _ h => h) (by rfl) ?_ ?_; rotate_left; (focus (intro w' hw'; go_simp; (try with_reducible rfl))); (try simp only [Act.put, List.setIfInBounds_toArray, List.set_cons_zero, List.set_cons_succ]))
      (refine walkS_call 129 _ _ _ _ (HSR.out _) rfl rfl rfl (by rfl) rfl (enter_rsameR _ _ _) ?_; rintro e x9 ⟨rfl, t9⟩; refine ⟨_, rfl, hS.trans t9 (fun _ _ h => h), fun hS => ?_⟩; clear t9; (try simp only [Act.put, List.setIfInBounds_toArray, List.set_cons_zero, List.set_cons_succ]))
      (refine walkS_take (v := ?_) (some 130) rfl rfl (fun _ _ _ h => h) (by rfl) ?_ ?_; rotate_left; (focus (intro w' hw'; go_simp; (try with_reducible rfl))); (try simp only [Act.put, List.setIfInBounds_toArray, List.set_cons_zero, List.set_cons_succ]))
      (refine walkS_take (v := ?_) (some 131) rfl rfl (fun _ _ _ h => h) (by rfl) ?_ ?_; rotate_left; (focus (intro w' hw'; go_simp; (try with_reducible rfl))); (try simp only [Act.put, List.setIfInBounds_toArray, List.set_cons_zero, List.set_cons_succ]))
      refine walkS_done ?_
      go_wp2_with fail
      go_meet
      exact ⟨rfl, hS⟩
    case rest =>
      obtain ⟨rfl, tx⟩ := hcut
      have HPW := Lib.hid (HPWK.out.still tx)
      have HROW := Lib.hid (HROW.out.touch tx (fun _ _ => .inr (fun h => h)))
      have HOM := Lib.hid (HOM.out.still tx)
      clear tx HPWK HCF HCQ HCR HCW HSR HREC HOR HPLp HPLq HPLr HOp HOq HOr HFL HWL
      have HKBK := Lib.hid ((HT5.out.trans HPW.out.f.t (fun _ _ h => h)).keeps HG1.out (fun h => h))
      have HKO : RowKit.Hid (¬ footF g rh KB) := Lib.hid (fun e => by have h1 := HPW.out.f.f _ e; have h2 := heap_lt HG1.out; have h3 := HT5.out.size; omega)
      obtain ⟨d, hd⟩ : ∃ d, decide (t.proto = 6) = d := ⟨_, rfl⟩
      obtain ⟨rs, M', hrs, hM, hL1, hL2⟩ := mv_5 (t := t) ((N : Int) + 1) 4 5 d ⟨by decide, by decide⟩ (by decide)
      have HPKT := Lib.hid (fun (W : World) (ma : Option Addr) (mc : Nat) (p : PW w5 W g rh 4 100 [⟨t, 2, (N : Int) + 1, 4⟩] C 13 [bk2] (tabF [bk2] 13) a4 1 c4 G4 2) (r : RowB W ma n mc (madeF (kOf t) 9 4 [])) =>
        pktG W g rh [⟨t, 2, (N : Int) + 1, 4⟩] p.f.q C bk2 gmay2 ⟨by decide, by decide⟩ a4 1 c4 G4 2 p.c t ot HMT.out ((N : Int) + 1) 5 ⟨by decide, by decide⟩ 4 ma n mc r d ((flagX4 t).trans hd) rs M' hrs hM)
      have HMK := Lib.hid (fun W => madeG t ot 4 (.inr rfl) n HNZ.out W)
      generalize madeF (kOf t) 9 4 [] = xs at HMK HPKT
      simp only [cfg23, cfgC, bk2, tcs] at HMK HPKT
      have HPD : RowKit.Hid ((t.proto == (6 : Int)) = d) := Lib.hid (by rw [← hd]; rw [Bool.eq_iff_iff]; simp)
      obtain ⟨L, hL⟩ : ∃ L, rs.length = L := ⟨_, rfl⟩
      rw [hL] at hL1 hL2 HPKT
      have HLD := Lib.hid hL1
      have HML := Lib.hid hL2
      clear hd hrs hM hL1 hL2 hL HROW HOM
      go_upto_region 18 with (fail)
      go_cut [16] (fun s wx => ∃ AC pa pn pc qa qc h' M1, s = .pointer (some ⟨AC, 0, none⟩) ∧ wx.heap[AC]? = some (.cells (planV 2 0 2 (.slice pa pn pc) (.slice qa L qc)) 53 (0, 0)) ∧ PW w5 wx g h' 4 100 M1 C 13 [bk2] (tabF [bk2] 13) a4 1 c4 G4 2 ∧ M1.length = M'.length)
      case first =>
        have HPW := Lib.hid (HPW.out.still (Touch.refl wc (fun _ => False)).drew)
        have HKBK : RowKit.Hid (wc.drew.heap[KB]? = some (.cells (tcs t) 37 (0, 0))) := Lib.hid HKBK.out
        go_wp2_with fail
        have hS := HKBK.out
        refine wp_region_tree (fun w' => w'.heap[KB]? = some (.cells (tcs t) 37 (0, 0))) (.take 1 (.take 2 (.take 3 (.take 4 (.take 5 (.two 0 8 (.two 6 8 (.two 7 8 (.one 8 (.one 9 .fin)) (.one 7 (.one 9 .fin))) (.one 6 (.one 7 (.one 9 .fin)))) (.one 0 (.one 6 (.one 7 (.one 9 .fin)))))))))) (by kernel_rfl) (by kernel_rfl) (by kernel_rfl) (by kernel_rfl) hS ?_
        refine walkT_take ?_
        (refine takeN_take (v := ?_) (some 133) rfl rfl (fun _ _ _ h => h) (by rfl) ?_ ?_; rotate_left; (focus (intro w' hw'; go_simp; (try with_reducible rfl))); (try simp only [Act.put, List.setIfInBounds_toArray, List.set_cons_zero, List.set_cons_succ]))
        refine walkT_take ?_
        (refine takeN_take (v := ?_) (some 134) rfl rfl (fun _ _ _ h => h) (by rfl) ?_ ?_; rotate_left; (focus (intro w' hw'; go_simp; (try with_reducible rfl))); (try simp only [Act.put, List.setIfInBounds_toArray, List.set_cons_zero, List.set_cons_succ]))
        refine walkT_take ?_
        (refine takeN_take (v := ?_) (some 135) rfl rfl (fun _ _ _ h => h) (by rfl) ?_ ?_; rotate_left; (focus (intro w' hw'; go_simp; (try with_reducible rfl))); (try simp only [Act.put, List.setIfInBounds_toArray, List.set_cons_zero, List.set_cons_succ]))
        refine walkT_take ?_
        (refine takeN_bin (some 136) _ _ _ _ _ _ _ _ (addI_runX _ _ ((N : Int) + 1) ⟨rfl, by omega, by omega⟩) rfl rfl rfl rfl rfl (fun _ _ _ h => h) (by rfl) ?_; (try simp only [Act.put, List.setIfInBounds_toArray, List.set_cons_zero, List.set_cons_succ]))
        refine walkT_take ?_
        (refine takeN_row (some 137) rfl rfl 37 (.tmp 2) rfl (KB) rfl _ _ _ _ (fun w' h => h) Tryz.underlying37 rfl infoT (fun _ _ _ h => h) (by rfl) ?_; (try simp only [Act.put, List.setIfInBounds_toArray, List.set_cons_zero, List.set_cons_succ]))
        refine walkT_two ?_ ?_
        · (refine runN_call 132 9 _ _ _ (HCFG.out _) rfl rfl rfl (by rfl) rfl (enter_config _ _) ?_; rintro e wa9 ⟨rfl, ta9⟩; (try have HAC := Lib.hid (ta9.keeps HAC.out (fun h => h))); (try have HROWE := Lib.hid (HROWE.out.touch ta9 (fun _ _ => .inr (fun h => h)))); have HKBK := Lib.hid (ta9.keeps HKBK.out (fun h => h)); have HPW := Lib.hid (HPW.out.still ta9); refine ⟨_, rfl, HKBK.out, fun hS => ?_⟩; clear ta9; (try simp only [Act.put, List.setIfInBounds_toArray, List.set_cons_zero, List.set_cons_succ]))
          refine walkT_two ?_ ?_
          · (refine runN_call 138 27 _ _ _ (HMK.out _) rfl rfl rfl (by rfl) rfl (enter_made _ _ _ _ _) ?_; rintro e wb9 ⟨ma9, mc9, rfl, hfb⟩; have tb := hfb.2; (try have HAC := Lib.hid (tb.keeps HAC.out (fun h => h))); (try have HROWE := Lib.hid (HROWE.out.touch tb (fun _ _ => .inr (fun h => h)))); have HKBK := Lib.hid (tb.keeps HKBK.out (fun h => h)); have HPW := Lib.hid (HPW.out.still tb); have HROWE := Lib.hid hfb.row'.2; refine ⟨_, rfl, HKBK.out, fun hS => ?_⟩; clear tb hfb; (try simp only [Act.put, List.setIfInBounds_toArray, List.set_cons_zero, List.set_cons_succ]))
            refine walkT_two ?_ ?_
            · (refine runN_call 139 18 _ _ _ (HPKT.out _ _ _ HPW.out HROWE.out) rfl rfl rfl (by rfl) rfl (enter_packet _ _ _ _ _ _ _) ?_; rintro e wc9 ⟨ea, en, ec, qa9, qc9, rfl, hrow9, hnew9, hst⟩; obtain ⟨h', M1, hpm, hpw, hoff⟩ := HPW.out.step hst; (try have HAO := Lib.hid (hoff _ (heap_lt HAC.out) HAO.out)); (try have HAC := Lib.hid ((step_touch hst).keeps HAC.out HAP.out)); have HKBK := Lib.hid ((step_touch hst).keeps HKBK.out HKO.out); have HPM := Lib.hid hpm.length_eq; have HPW := Lib.hid hpw; refine ⟨_, rfl, HKBK.out, fun hS => ?_⟩; clear hst hpm hpw hoff hrow9 hnew9; (try simp only [Act.put, List.setIfInBounds_toArray, List.set_cons_zero, List.set_cons_succ]))
              refine walkT_one ?_
              (have HAL := Lib.hid HPW.out.f.t.size; have HAO := Lib.hid (HPW.out.new _ (Nat.le_refl _)); have HAP := Lib.hid HAO.out.1; have HKA := Lib.hid (Nat.ne_of_lt (heap_lt HKBK.out)); refine runN_new 16 (fun W => .pointer (some ⟨W.heap.size, 0, none⟩)) (planV 0 0 0 (.slice none 0 0) (.slice none 0 0)) 53 rfl rfl (by rfl) (by intro W; go_simp <;> first | with_reducible rfl | rfl | exact ⟨rfl, rfl⟩) ?_; intro w7 hw7 hM7 hs7 t7; (try have HAC := Lib.hid (t7.keeps HAC.out (fun h => h))); (try have HROWE := Lib.hid (HROWE.out.touch t7 (fun _ _ => .inr (fun h => h)))); have HKBK := Lib.hid (t7.keeps HKBK.out (fun h => h)); have HPW := Lib.hid (HPW.out.still t7); have HAC := Lib.hid hM7; refine ⟨HKBK.out, fun _ => ?_⟩; clear hw7 hs7 hM7 t7; (try simp only [Act.put, List.setIfInBounds_toArray, List.set_cons_zero, List.set_cons_succ]))
              refine walkT_one ?_
              (refine runN_store rfl rfl (by rfl) 53 _ _ rfl _ (planV 2 0 2 (.slice ea en ec) (.slice qa9 L qc9)) rfl rfl _ _ HAC.out infoPlan rfl rfl ?_; intro w8 hM8 t8; have HAC := Lib.hid hM8; have HKBK := Lib.hid (t8.keeps HKBK.out HKA.out); have HPW := Lib.hid (HPW.out.set _ HAO.out HAL.out t8); refine ⟨HKBK.out, fun hS => ?_⟩; clear hM8 t8; (try simp only [Act.put, List.setIfInBounds_toArray, List.set_cons_zero, List.set_cons_succ]))
              refine walkT_fin ?_
              go_wp2_with fail
              go_meet
              exact ⟨_, _, _, _, _, _, _, _, rfl, HAC.out, HPW.out, HPM.out⟩
            · (have HAL := Lib.hid HPW.out.f.t.size; have HAO := Lib.hid (HPW.out.new _ (Nat.le_refl _)); have HAP := Lib.hid HAO.out.1; have HKA := Lib.hid (Nat.ne_of_lt (heap_lt HKBK.out)); refine runN_new 16 (fun W => .pointer (some ⟨W.heap.size, 0, none⟩)) (planV 0 0 0 (.slice none 0 0) (.slice none 0 0)) 53 rfl rfl (by rfl) (by intro W; go_simp <;> first | with_reducible rfl | rfl | exact ⟨rfl, rfl⟩) ?_; intro w7 hw7 hM7 hs7 t7; (try have HAC := Lib.hid (t7.keeps HAC.out (fun h => h))); (try have HROWE := Lib.hid (HROWE.out.touch t7 (fun _ _ => .inr (fun h => h)))); have HKBK := Lib.hid (t7.keeps HKBK.out (fun h => h)); have HPW := Lib.hid (HPW.out.still t7); have HAC := Lib.hid hM7; refine ⟨HKBK.out, fun _ => ?_⟩; clear hw7 hs7 hM7 t7; (try simp only [Act.put, List.setIfInBounds_toArray, List.set_cons_zero, List.set_cons_succ]))
              refine walkT_one ?_
              (refine runN_call 139 18 _ _ _ (HPKT.out _ _ _ HPW.out HROWE.out) rfl rfl rfl (by rfl) rfl (enter_packet _ _ _ _ _ _ _) ?_; rintro e wc9 ⟨ea, en, ec, qa9, qc9, rfl, hrow9, hnew9, hst⟩; obtain ⟨h', M1, hpm, hpw, hoff⟩ := HPW.out.step hst; (try have HAO := Lib.hid (hoff _ (heap_lt HAC.out) HAO.out)); (try have HAC := Lib.hid ((step_touch hst).keeps HAC.out HAP.out)); have HKBK := Lib.hid ((step_touch hst).keeps HKBK.out HKO.out); have HPM := Lib.hid hpm.length_eq; have HPW := Lib.hid hpw; refine ⟨_, rfl, HKBK.out, fun hS => ?_⟩; clear hst hpm hpw hoff hrow9 hnew9; (try simp only [Act.put, List.setIfInBounds_toArray, List.set_cons_zero, List.set_cons_succ]))
              refine walkT_one ?_
              (refine runN_store rfl rfl (by rfl) 53 _ _ rfl _ (planV 2 0 2 (.slice ea en ec) (.slice qa9 L qc9)) rfl rfl _ _ HAC.out infoPlan rfl rfl ?_; intro w8 hM8 t8; have HAC := Lib.hid hM8; have HKBK := Lib.hid (t8.keeps HKBK.out HKA.out); have HPW := Lib.hid (HPW.out.set _ HAO.out HAL.out t8); refine ⟨HKBK.out, fun hS => ?_⟩; clear hM8 t8; (try simp only [Act.put, List.setIfInBounds_toArray, List.set_cons_zero, List.set_cons_succ]))
              refine walkT_fin ?_
              go_wp2_with fail
              go_meet
              exact ⟨_, _, _, _, _, _, _, _, rfl, HAC.out, HPW.out, HPM.out⟩
          · (have HAL := Lib.hid HPW.out.f.t.size; have HAO := Lib.hid (HPW.out.new _ (Nat.le_refl _)); have HAP := Lib.hid HAO.out.1; have HKA := Lib.hid (Nat.ne_of_lt (heap_lt HKBK.out)); refine runN_new 16 (fun W => .pointer (some ⟨W.heap.size, 0, none⟩)) (planV 0 0 0 (.slice none 0 0) (.slice none 0 0)) 53 rfl rfl (by rfl) (by intro W; go_simp <;> first | with_reducible rfl | rfl | exact ⟨rfl, rfl⟩) ?_; intro w7 hw7 hM7 hs7 t7; (try have HAC := Lib.hid (t7.keeps HAC.out (fun h => h))); (try have HROWE := Lib.hid (HROWE.out.touch t7 (fun _ _ => .inr (fun h => h)))); have HKBK := Lib.hid (t7.keeps HKBK.out (fun h => h)); have HPW := Lib.hid (HPW.out.still t7); have HAC := Lib.hid hM7; refine ⟨HKBK.out, fun _ => ?_⟩; clear hw7 hs7 hM7 t7; (try simp only [Act.put, List.setIfInBounds_toArray, List.set_cons_zero, List.set_cons_succ]))
            refine walkT_one ?_
            (refine runN_call 138 27 _ _ _ (HMK.out _) rfl rfl rfl (by rfl) rfl (enter_made _ _ _ _ _) ?_; rintro e wb9 ⟨ma9, mc9, rfl, hfb⟩; have tb := hfb.2; (try have HAC := Lib.hid (tb.keeps HAC.out (fun h => h))); (try have HROWE := Lib.hid (HROWE.out.touch tb (fun _ _ => .inr (fun h => h)))); have HKBK := Lib.hid (tb.keeps HKBK.out (fun h => h)); have HPW := Lib.hid (HPW.out.still tb); have HROWE := Lib.hid hfb.row'.2; refine ⟨_, rfl, HKBK.out, fun hS => ?_⟩; clear tb hfb; (try simp only [Act.put, List.setIfInBounds_toArray, List.set_cons_zero, List.set_cons_succ]))
            refine walkT_one ?_
            (refine runN_call 139 18 _ _ _ (HPKT.out _ _ _ HPW.out HROWE.out) rfl rfl rfl (by rfl) rfl (enter_packet _ _ _ _ _ _ _) ?_; rintro e wc9 ⟨ea, en, ec, qa9, qc9, rfl, hrow9, hnew9, hst⟩; obtain ⟨h', M1, hpm, hpw, hoff⟩ := HPW.out.step hst; (try have HAO := Lib.hid (hoff _ (heap_lt HAC.out) HAO.out)); (try have HAC := Lib.hid ((step_touch hst).keeps HAC.out HAP.out)); have HKBK := Lib.hid ((step_touch hst).keeps HKBK.out HKO.out); have HPM := Lib.hid hpm.length_eq; have HPW := Lib.hid hpw; refine ⟨_, rfl, HKBK.out, fun hS => ?_⟩; clear hst hpm hpw hoff hrow9 hnew9; (try simp only [Act.put, List.setIfInBounds_toArray, List.set_cons_zero, List.set_cons_succ]))
            refine walkT_one ?_
            (refine runN_store rfl rfl (by rfl) 53 _ _ rfl _ (planV 2 0 2 (.slice ea en ec) (.slice qa9 L qc9)) rfl rfl _ _ HAC.out infoPlan rfl rfl ?_; intro w8 hM8 t8; have HAC := Lib.hid hM8; have HKBK := Lib.hid (t8.keeps HKBK.out HKA.out); have HPW := Lib.hid (HPW.out.set _ HAO.out HAL.out t8); refine ⟨HKBK.out, fun hS => ?_⟩; clear hM8 t8; (try simp only [Act.put, List.setIfInBounds_toArray, List.set_cons_zero, List.set_cons_succ]))
            refine walkT_fin ?_
            go_wp2_with fail
            go_meet
            exact ⟨_, _, _, _, _, _, _, _, rfl, HAC.out, HPW.out, HPM.out⟩
        · (have HAL := Lib.hid HPW.out.f.t.size; have HAO := Lib.hid (HPW.out.new _ (Nat.le_refl _)); have HAP := Lib.hid HAO.out.1; have HKA := Lib.hid (Nat.ne_of_lt (heap_lt HKBK.out)); refine runN_new 16 (fun W => .pointer (some ⟨W.heap.size, 0, none⟩)) (planV 0 0 0 (.slice none 0 0) (.slice none 0 0)) 53 rfl rfl (by rfl) (by intro W; go_simp <;> first | with_reducible rfl | rfl | exact ⟨rfl, rfl⟩) ?_; intro w7 hw7 hM7 hs7 t7; (try have HAC := Lib.hid (t7.keeps HAC.out (fun h => h))); (try have HROWE := Lib.hid (HROWE.out.touch t7 (fun _ _ => .inr (fun h => h)))); have HKBK := Lib.hid (t7.keeps HKBK.out (fun h => h)); have HPW := Lib.hid (HPW.out.still t7); have HAC := Lib.hid hM7; refine ⟨HKBK.out, fun _ => ?_⟩; clear hw7 hs7 hM7 t7; (try simp only [Act.put, List.setIfInBounds_toArray, List.set_cons_zero, List.set_cons_succ]))
          refine walkT_one ?_
          (refine runN_call 132 9 _ _ _ (HCFG.out _) rfl rfl rfl (by rfl) rfl (enter_config _ _) ?_; rintro e wa9 ⟨rfl, ta9⟩; (try have HAC := Lib.hid (ta9.keeps HAC.out (fun h => h))); (try have HROWE := Lib.hid (HROWE.out.touch ta9 (fun _ _ => .inr (fun h => h)))); have HKBK := Lib.hid (ta9.keeps HKBK.out (fun h => h)); have HPW := Lib.hid (HPW.out.still ta9); refine ⟨_, rfl, HKBK.out, fun hS => ?_⟩; clear ta9; (try simp only [Act.put, List.setIfInBounds_toArray, List.set_cons_zero, List.set_cons_succ]))
          refine walkT_one ?_
          (refine runN_call 138 27 _ _ _ (HMK.out _) rfl rfl rfl (by rfl) rfl (enter_made _ _ _ _ _) ?_; rintro e wb9 ⟨ma9, mc9, rfl, hfb⟩; have tb := hfb.2; (try have HAC := Lib.hid (tb.keeps HAC.out (fun h => h))); (try have HROWE := Lib.hid (HROWE.out.touch tb (fun _ _ => .inr (fun h => h)))); have HKBK := Lib.hid (tb.keeps HKBK.out (fun h => h)); have HPW := Lib.hid (HPW.out.still tb); have HROWE := Lib.hid hfb.row'.2; refine ⟨_, rfl, HKBK.out, fun hS => ?_⟩; clear tb hfb; (try simp only [Act.put, List.setIfInBounds_toArray, List.set_cons_zero, List.set_cons_succ]))
          refine walkT_one ?_
          (refine runN_call 139 18 _ _ _ (HPKT.out _ _ _ HPW.out HROWE.out) rfl rfl rfl (by rfl) rfl (enter_packet _ _ _ _ _ _ _) ?_; rintro e wc9 ⟨ea, en, ec, qa9, qc9, rfl, hrow9, hnew9, hst⟩; obtain ⟨h', M1, hpm, hpw, hoff⟩ := HPW.out.step hst; (try have HAO := Lib.hid (hoff _ (heap_lt HAC.out) HAO.out)); (try have HAC := Lib.hid ((step_touch hst).keeps HAC.out HAP.out)); have HKBK := Lib.hid ((step_touch hst).keeps HKBK.out HKO.out); have HPM := Lib.hid hpm.length_eq; have HPW := Lib.hid hpw; refine ⟨_, rfl, HKBK.out, fun hS => ?_⟩; clear hst hpm hpw hoff hrow9 hnew9; (try simp only [Act.put, List.setIfInBounds_toArray, List.set_cons_zero, List.set_cons_succ]))
          refine walkT_one ?_
          (refine runN_store rfl rfl (by rfl) 53 _ _ rfl _ (planV 2 0 2 (.slice ea en ec) (.slice qa9 L qc9)) rfl rfl _ _ HAC.out infoPlan rfl rfl ?_; intro w8 hM8 t8; have HAC := Lib.hid hM8; have HKBK := Lib.hid (t8.keeps HKBK.out HKA.out); have HPW := Lib.hid (HPW.out.set _ HAO.out HAL.out t8); refine ⟨HKBK.out, fun hS => ?_⟩; clear hM8 t8; (try simp only [Act.put, List.setIfInBounds_toArray, List.set_cons_zero, List.set_cons_succ]))
          refine walkT_fin ?_
          go_wp2_with fail
          go_meet
          exact ⟨_, _, _, _, _, _, _, _, rfl, HAC.out, HPW.out, HPM.out⟩
      case rest =>
        obtain ⟨AC, ea, en, ec, qa9, qc9, h', M1, rfl, hA, hP, hml⟩ := hcut
        have HP := Lib.hid hP
        have HAC := Lib.hid hA
        obtain ⟨wz, hwz⟩ : ∃ W, wc = W := ⟨_, rfl⟩
        rw [hwz] at HP HAC ⊢
        have HCA : RowKit.Hid (∀ W, Touch wz W (fun _ => False) → W.cell? ⟨AC, 2, none⟩ = some (.int .i64 2) ∧ W.cell? ⟨AC, 4, none⟩ = some (.slice qa9 L qc9)) := Lib.hid (fun W t => ⟨cell_of_cells (t.keeps HAC.out (fun h => h)) 2, cell_of_cells (t.keeps HAC.out (fun h => h)) 4⟩)
        have HCK : RowKit.Hid (∀ W, Touch wz W (fun _ => False) → W.cell? ⟨KB, 2, none⟩ = some (.int .i64 t.proto)) := Lib.hid (fun W x => (HKB.out W (HT5.out.trans (HP.out.f.t.trans x (fun _ _ h => h)) (fun _ _ h => h))).2.2.1)
        have HLE : RowKit.Hid (∀ W, Touch wz W (fun _ => False) → Calls Tryz.prog 32 #[.pointer (some ⟨g, 0, none⟩)] W fun e w' => e = .returned (.int .i64 (1 - (L : Int))) ∧ W = w') := Lib.hid (fun W x => by
          have h := flen_any W g h' 4 100 M1 (HP.out.still x).f.q
          rw [hml, HML.out] at h
          exact h)
        have hLb : (L : Int) ≤ 1 := by have := HML.out; omega
        clear hA hP hml hwz
        go_upto_region 19 with (fail)
        go_cut [4] (fun s wx => s = .bool true ∧ Touch wz wx (fun _ => False))
        case first =>
          go_wp2_with fail
          have hS := (Touch.refl wz (fun _ => False)).drew
          refine wp_region_sched (fun w' => Touch wz w' (fun _ => False)) [(0, true), (1, true), (2, true), (3, true), (4, true), (5, true), (6, true), (7, true), (8, true), (9, true), (10, true), (11, true), (12, true), (13, true), (14, true), (15, true), (17, true), (18, true), (19, true), (20, true), (16, false), (21, true), (22, true), (23, true), (24, false), (25, true), (26, true), (27, false), (28, true), (29, true)] (by kernel_rfl) (by kernel_rfl) rfl (by kernel_rfl) hS ?_
          (refine walkS_take (v := ?_) (some 140) rfl rfl (fun _ _ _ h => h) (by rfl) ?_ ?_; rotate_left; (focus (intro w' hw'; go_simp; (try with_reducible rfl))); (try simp only [Act.put, List.setIfInBounds_toArray, List.set_cons_zero, List.set_cons_succ]))
          (refine walkS_take (v := ?_) (some 141) rfl rfl (fun _ _ _ h => h) (by rfl) ?_ ?_; rotate_left; (focus (intro w' hw'; go_simp; (try with_reducible rfl))); (try simp only [Act.put, List.setIfInBounds_toArray, List.set_cons_zero, List.set_cons_succ]))
          (refine walkS_take (v := ?_) (some 142) rfl rfl (fun _ _ _ h => h) (by rfl) ?_ ?_; rotate_left; (focus (intro w' hw'; obtain ⟨y2, y4⟩ := HCA.out w' hw'; go_simp; (try with_reducible rfl))); (try simp only [Act.put, List.setIfInBounds_toArray, List.set_cons_zero, List.set_cons_succ]))
          (refine walkS_take (v := ?_) (some 143) rfl rfl (fun _ _ _ h => h) (by rfl) ?_ ?_; rotate_left; (focus (intro w' hw'; go_simp; (try with_reducible rfl))); (try simp only [Act.put, List.setIfInBounds_toArray, List.set_cons_zero, List.set_cons_succ]))
          (refine walkS_take (v := ?_) (some 144) rfl rfl (fun _ _ _ h => h) (by rfl) ?_ ?_; rotate_left; (focus (intro w' hw'; go_simp; (try with_reducible rfl))); (try simp only [Act.put, List.setIfInBounds_toArray, List.set_cons_zero, List.set_cons_succ]))
          (refine walkS_take (v := ?_) (some 145) rfl rfl (fun _ _ _ h => h) (by rfl) ?_ ?_; rotate_left; (focus (intro w' hw'; go_simp; (try with_reducible rfl))); (try simp only [Act.put, List.setIfInBounds_toArray, List.set_cons_zero, List.set_cons_succ]))
          (refine walkS_take (v := ?_) (some 146) rfl rfl (fun _ _ _ h => h) (by rfl) ?_ ?_; rotate_left; (focus (intro w' hw'; obtain ⟨y2, y4⟩ := HCA.out w' hw'; go_simp; (try with_reducible rfl))); (try simp only [Act.put, List.setIfInBounds_toArray, List.set_cons_zero, List.set_cons_succ]))
          (refine walkS_take (v := ?_) (some 147) rfl rfl (fun _ _ _ h => h) (by rfl) ?_ ?_; rotate_left; (focus (intro w' hw'; go_simp; (try with_reducible rfl))); (try simp only [Act.put, List.setIfInBounds_toArray, List.set_cons_zero, List.set_cons_succ]))
          (refine walkS_bin (some 148) _ _ _ _ _ _ _ _ (eqI_boolX _ _ d HLD.out) rfl rfl rfl rfl rfl (fun _ _ _ h => h) (by rfl) ?_; (try simp only [Act.put, List.setIfInBounds_toArray, List.set_cons_zero, List.set_cons_succ]))
          (refine walkS_take (v := ?_) (some 149) rfl rfl (fun _ _ _ h => h) (by rfl) ?_ ?_; rotate_left; (focus (intro w' hw'; go_simp; (try with_reducible rfl))); (try simp only [Act.put, List.setIfInBounds_toArray, List.set_cons_zero, List.set_cons_succ]))
          (refine walkS_take (v := ?_) (some 150) rfl rfl (fun _ _ _ h => h) (by rfl) ?_ ?_; rotate_left; (focus (intro w' hw'; have y2 := HCK.out w' hw'; go_simp; (try with_reducible rfl))); (try simp only [Act.put, List.setIfInBounds_toArray, List.set_cons_zero, List.set_cons_succ]))
          (refine walkS_bin (some 151) _ _ _ _ _ _ _ _ (eqI_boolX _ _ d HPD.out) rfl rfl rfl rfl rfl (fun _ _ _ h => h) (by rfl) ?_; (try simp only [Act.put, List.setIfInBounds_toArray, List.set_cons_zero, List.set_cons_succ]))
          (refine walkS_bin (some 152) _ _ _ _ _ _ _ _ (eqB_sameX d) rfl rfl rfl rfl rfl (fun _ _ _ h => h) (by rfl) ?_; (try simp only [Act.put, List.setIfInBounds_toArray, List.set_cons_zero, List.set_cons_succ]))
          (refine walkS_take (v := ?_) (some 153) rfl rfl (fun _ _ _ h => h) (by rfl) ?_ ?_; rotate_left; (focus (intro w' hw'; go_simp; (try with_reducible rfl))); (try simp only [Act.put, List.setIfInBounds_toArray, List.set_cons_zero, List.set_cons_succ]))
          (refine walkS_take (v := ?_) (some 154) rfl rfl (fun _ _ _ h => h) (by rfl) ?_ ?_; rotate_left; (focus (intro w' hw'; go_simp; (try with_reducible rfl))); (try simp only [Act.put, List.setIfInBounds_toArray, List.set_cons_zero, List.set_cons_succ]))
          (refine walkS_take (v := ?_) (some 155) rfl rfl (fun _ _ _ h => h) (by rfl) ?_ ?_; rotate_left; (focus (intro w' hw'; go_simp; (try with_reducible rfl))); (try simp only [Act.put, List.setIfInBounds_toArray, List.set_cons_zero, List.set_cons_succ]))
          (refine walkS_take (v := ?_) (some 157) rfl rfl (fun _ _ _ h => h) (by rfl) ?_ ?_; rotate_left; (focus (intro w' hw'; go_simp; (try with_reducible rfl))); (try simp only [Act.put, List.setIfInBounds_toArray, List.set_cons_zero, List.set_cons_succ]))
          (refine walkS_take (v := ?_) (some 158) rfl rfl (fun _ _ _ h => h) (by rfl) ?_ ?_; rotate_left; (focus (intro w' hw'; obtain ⟨y2, y4⟩ := HCA.out w' hw'; go_simp; (try with_reducible rfl))); (try simp only [Act.put, List.setIfInBounds_toArray, List.set_cons_zero, List.set_cons_succ]))
          (refine walkS_take (v := ?_) (some 159) rfl rfl (fun _ _ _ h => h) (by rfl) ?_ ?_; rotate_left; (focus (intro w' hw'; go_simp; (try with_reducible rfl))); (try simp only [Act.put, List.setIfInBounds_toArray, List.set_cons_zero, List.set_cons_succ]))
          (refine walkS_bin (some 160) _ _ _ _ _ _ _ _ (subI_runX 1 _ (1 - (L : Int)) ⟨rfl, by omega, by omega⟩) rfl rfl rfl rfl rfl (fun _ _ _ h => h) (by rfl) ?_; (try simp only [Act.put, List.setIfInBounds_toArray, List.set_cons_zero, List.set_cons_succ]))
          (refine walkS_call 156 _ _ _ _ (HLE.out _ hS) rfl rfl rfl (by rfl) rfl (enter_flenX _ _) ?_; rintro e x9 ⟨rfl, rfl⟩; refine ⟨_, rfl, hS, fun hS => ?_⟩; (try simp only [Act.put, List.setIfInBounds_toArray, List.set_cons_zero, List.set_cons_succ]))
          (refine walkS_bin (some 161) _ _ _ _ _ _ _ _ (eqI_boolX _ _ true (by simp)) rfl rfl rfl rfl rfl (fun _ _ _ h => h) (by rfl) ?_; (try simp only [Act.put, List.setIfInBounds_toArray, List.set_cons_zero, List.set_cons_succ]))
          (refine walkS_take (v := ?_) (some 162) rfl rfl (fun _ _ _ h => h) (by rfl) ?_ ?_; rotate_left; (focus (intro w' hw'; go_simp; (try with_reducible rfl))); (try simp only [Act.put, List.setIfInBounds_toArray, List.set_cons_zero, List.set_cons_succ]))
          (refine walkS_take (v := ?_) (some 163) rfl rfl (fun _ _ _ h => h) (by rfl) ?_ ?_; rotate_left; (focus (intro w' hw'; go_simp; (try with_reducible rfl))); (try simp only [Act.put, List.setIfInBounds_toArray, List.set_cons_zero, List.set_cons_succ]))
          (refine walkS_call 164 _ _ _ _ (rtime5 _) rfl rfl rfl (by rfl) rfl (enter_rtimeX _ _) ?_; rintro e x9 ⟨rfl, rfl⟩; refine ⟨_, rfl, hS, fun hS => ?_⟩; (try simp only [Act.put, List.setIfInBounds_toArray, List.set_cons_zero, List.set_cons_succ]))
          (refine walkS_take (v := ?_) (some 165) rfl rfl (fun _ _ _ h => h) (by rfl) ?_ ?_; rotate_left; (focus (intro w' hw'; go_simp; (try with_reducible rfl))); (try simp only [Act.put, List.setIfInBounds_toArray, List.set_cons_zero, List.set_cons_succ]))
          (refine walkS_take (v := ?_) (some 166) rfl rfl (fun _ _ _ h => h) (by rfl) ?_ ?_; rotate_left; (focus (intro w' hw'; go_simp; (try with_reducible rfl))); (try simp only [Act.put, List.setIfInBounds_toArray, List.set_cons_zero, List.set_cons_succ]))
          (refine walkS_call 167 _ _ _ _ (awake23 _) rfl rfl rfl (by rfl) rfl (enter_awakeX _) ?_; rintro e x9 ⟨rfl, t9⟩; refine ⟨_, rfl, hS.trans t9 (fun _ _ h => h), fun hS => ?_⟩; clear t9; (try simp only [Act.put, List.setIfInBounds_toArray, List.set_cons_zero, List.set_cons_succ]))
          (refine walkS_take (v := ?_) (some 168) rfl rfl (fun _ _ _ h => h) (by rfl) ?_ ?_; rotate_left; (focus (intro w' hw'; go_simp; (try with_reducible rfl))); (try simp only [Act.put, List.setIfInBounds_toArray, List.set_cons_zero, List.set_cons_succ]))
          (refine walkS_take (v := ?_) (some 4) rfl rfl (fun _ _ _ h => h) (by rfl) ?_ ?_; rotate_left; (focus (intro w' hw'; go_simp; (try with_reducible rfl))); (try simp only [Act.put, List.setIfInBounds_toArray, List.set_cons_zero, List.set_cons_succ]))
          refine walkS_done ?_
          go_wp2_with fail
          go_meet
          exact ⟨rfl, hS⟩
        case rest =>
          obtain ⟨rfl, tx⟩ := hcut
          have HTX := Lib.hid (HT1.out.trans (HT5.out.trans (HP.out.f.t.trans tx (fun _ _ h => h)) (fun _ _ h => h)) (fun _ _ h => h))
          go_wp2_with fail
          go_ret
          exact ⟨rfl, HTX.out⟩

theorem pathMoves_holds : Rows.PathMovesSaid := by
  refine pathMoves.said fun H enc W base v0 v1 d0 d1 p0 p1 h0 h1 => ?_
  obtain ⟨t, rfl, ot⟩ := h0.tupD
  obtain ⟨y, rfl, _⟩ := h1.i64 Tryz.underlying3
  exact (moves23_walk t ot y W).mono fun e w' h => ⟨h.1, h.2.below (fun _ _ h => h.elim) (Nat.le_refl _)⟩
end Go.Proofs.YtpjdcgjoepjmcaaGreat
