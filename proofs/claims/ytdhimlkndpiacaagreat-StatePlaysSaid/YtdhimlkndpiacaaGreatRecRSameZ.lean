/- Records: are two the same? What the reference says. -/
import Derived.Test.YtdhimlkndpiacaaGreatHDZ
set_option linter.unusedVariables false
set_option linter.unusedSimpArgs false
namespace Go.Proofs.YtdhimlkndpiacaaGreat
open Go.RowKit

set_option maxRecDepth 20000 in
set_option maxHeartbeats 8000000 in
theorem rsame_any (r : RecD) (a : Option Addr) (cap : Nat) (s : RecD) (a2 : Option Addr) (cap2 : Nat) (w : World) (hr : RowK w a r.bs.length cap r.bs) (hl : r.bs.length ≤ 100000) (hr2 : RowK w a2 s.bs.length cap2 s.bs) (hl2 : s.bs.length ≤ 100000) :
    Calls Tryz.prog 46 #[.agg (rcs r a cap), .agg (rcs s a2 cap2)] w fun e w' => e = .returned (.bool (sameR r s)) ∧ Touch w w' (fun _ => False) := by
  obtain ⟨W1, hW1⟩ : ∃ W, w.alloc (.cells (rcs r a cap) 41) = W := ⟨_, rfl⟩
  obtain ⟨W2, hW2⟩ : ∃ W, W1.alloc (.cells (rcs s a2 cap2) 41) = W := ⟨_, rfl⟩
  have t1 : Touch w W1 (fun _ => False) := hW1 ▸ (Touch.refl _ _).alloc _
  have t2 : Touch W1 W2 (fun _ => False) := hW2 ▸ (Touch.refl _ _).alloc _
  have hg1 : W1.heap[w.heap.size]? = some (.cells (rcs r a cap) 41 (0, 0)) := hW1 ▸ heap_alloc_new w _
  have hg2 : W2.heap[W1.heap.size]? = some (.cells (rcs s a2 cap2) 41 (0, 0)) := hW2 ▸ heap_alloc_new W1 _
  have HSZ : RowKit.Hid (w.heap.size < W1.heap.size) := Lib.hid (heap_lt hg1)
  have HSZ2 : RowKit.Hid (W1.heap.size < W2.heap.size) := Lib.hid (heap_lt hg2)
  have t3 := t2.drew
  have HT := Lib.hid (t1.trans t3 (fun _ _ h => h))
  have HA := Lib.hid (t3.keeps hg1 (fun h => h))
  have HB : RowKit.Hid (W2.drew.heap[W1.heap.size]? = some (.cells (rcs s a2 cap2) 41 (0, 0))) := Lib.hid hg2
  have HX := Lib.hid (hr.still HT.out)
  have HY := Lib.hid (hr2.still HT.out)
  have HIR := Lib.hid infoRec
  obtain ⟨p, hp⟩ : ∃ p, plainD r = p := ⟨_, rfl⟩
  obtain ⟨q, hq⟩ : ∃ q, plainD s = q := ⟨_, rfl⟩
  have HC1 : RowKit.Hid (∀ wx, RowK wx a r.bs.length cap r.bs → Calls Tryz.prog 26 #[.agg (rcs r a cap)] wx fun e w' => RecIs wx w' p e) := Lib.hid (fun wx h => hp ▸ rplain_any r a cap wx h hl)
  have HC2 : RowKit.Hid (∀ wx, RowK wx a2 s.bs.length cap2 s.bs → Calls Tryz.prog 26 #[.agg (rcs s a2 cap2)] wx fun e w' => RecIs wx w' q e) := Lib.hid (fun wx h => hq ▸ rplain_any s a2 cap2 wx h hl2)
  have HEQ : RowKit.Hid (sameR r s = decide (p.val = q.val)) := Lib.hid (by unfold sameR; rw [hp, hq])
  simp only [rcs] at hW1 hW2
  clear hr hr2 t1 t2 t3 hg1 hg2 hp hq
  simp only [rcs]
  go_enter Tryz.func46, Tryz.ntmps46
  go_upto_region 1 with fail
  go_cut [8] (fun x wx => SameAt w w.heap.size W1.heap.size p q x wx)
  case first =>
    go_wp2_with fail
    have hne1 : (w.heap.size = W1.heap.size) = False := eq_false (by have := HSZ.out; omega)
    have hne2 : (W1.heap.size = w.heap.size) = False := eq_false (by have := HSZ.out; omega)
    obtain ⟨k0, k1, k2, k3, k4, k5, k6, k7, k8, k9, k10, k11, k12, k13⟩ := rcells_of HA.out
    obtain ⟨m0, m1, m2, m3, m4, m5, m6, m7, m8, m9, m10, m11, m12, m13⟩ := rcells_of HB.out
    have fa := free_of_cells HA.out
    have fb := free_of_cells HB.out
    go_region_with (first
      | (have _u := H1; go_at_call 26; refine (HC2.out _ HY.out).mono ?_; rintro e w5 ⟨a5, c5, rfl, ho5, t5⟩; simp only [rcs]; have H1 := Lib.hid (H1.out.still t5); have H2 := Lib.hid ho5.row.2.1; have L2 : RowKit.Hid (∀ x, a5 = some x → W2.heap.size ≤ x.block) := Lib.hid (fun x hx => Nat.le_trans L3.out (ho5.row.2.2 x hx).1); have HT := Lib.hid (HT.out.trans t5 (fun _ _ h => h)); have HA := Lib.hid (t5.keeps HA.out (fun h => h)); have HB := Lib.hid (t5.keeps HB.out (fun h => h)); clear ho5 t5; clear k0 k1 k2 k3 k4 k5 k6 k7 k8 k9 k10 k11 k12 k13 m0 m1 m2 m3 m4 m5 m6 m7 m8 m9 m10 m11 m12 m13 fa fb; obtain ⟨k0, k1, k2, k3, k4, k5, k6, k7, k8, k9, k10, k11, k12, k13⟩ := rcells_of HA.out; obtain ⟨m0, m1, m2, m3, m4, m5, m6, m7, m8, m9, m10, m11, m12, m13⟩ := rcells_of HB.out; have fa := free_of_cells HA.out; have fb := free_of_cells HB.out)
      | (go_at_call 26; refine (HC1.out _ HX.out).mono ?_; rintro e w4 ⟨a4, c4, rfl, ho4, t4⟩; simp only [rcs]; have H1 := Lib.hid ho4.row.2.1; have L1 : RowKit.Hid (∀ x, a4 = some x → W2.heap.size ≤ x.block) := Lib.hid (fun x hx => (ho4.row.2.2 x hx).1); have L3 := Lib.hid t4.size; have HT := Lib.hid (HT.out.trans t4 (fun _ _ h => h)); have HA := Lib.hid (t4.keeps HA.out (fun h => h)); have HB := Lib.hid (t4.keeps HB.out (fun h => h)); have HY := Lib.hid (HY.out.still t4); clear ho4 t4; clear k0 k1 k2 k3 k4 k5 k6 k7 k8 k9 k10 k11 k12 k13 m0 m1 m2 m3 m4 m5 m6 m7 m8 m9 m10 m11 m12 m13 fa fb; obtain ⟨k0, k1, k2, k3, k4, k5, k6, k7, k8, k9, k10, k11, k12, k13⟩ := rcells_of HA.out; obtain ⟨m0, m1, m2, m3, m4, m5, m6, m7, m8, m9, m10, m11, m12, m13⟩ := rcells_of HB.out; have fa := free_of_cells HA.out; have fb := free_of_cells HB.out))
    all_goals (
      go_wp2_with fail
      go_meet
      have hA := HA.out
      have hB := HB.out
      simp only [rcs] at hA hB
      have tA := touch14 w5 w.heap.size (.int .i64 p.kind) (.int .u32 p.t.src) (.int .u32 p.t.dst) (.int .i64 p.t.proto) (.int .i64 p.t.sport) (.int .i64 p.t.dport) (.int .i64 p.fb) (.int .i64 p.fg) (.int .i64 p.fs) (.int .i64 p.gen) (.slice a4 p.bs.length c4) (.int .i64 p.be) (.int .i64 p.un) (.int .i64 p.ct)
      have gA := cells14 hA (.int .i64 p.kind) (.int .u32 p.t.src) (.int .u32 p.t.dst) (.int .i64 p.t.proto) (.int .i64 p.t.sport) (.int .i64 p.t.dport) (.int .i64 p.fb) (.int .i64 p.fg) (.int .i64 p.fs) (.int .i64 p.gen) (.slice a4 p.bs.length c4) (.int .i64 p.be) (.int .i64 p.un) (.int .i64 p.ct)
      have kB := tA.keeps hB (fun h => by have := HSZ.out; omega)
      have n1 := HSZ.out
      have n2 := HSZ2.out
      have r1 := H1.out.touch tA (fun x hx => .inr (fun h => by have := L1.out x hx; omega))
      have r2 := H2.out.touch tA (fun x hx => .inr (fun h => by have := L2.out x hx; omega))
      have tt := HT.out.trans tA (fun k h1 h2 => by omega)
      generalize ((((((((((((((w5.setCell ⟨w.heap.size, 0, none⟩ (.int .i64 p.kind)).setCell ⟨w.heap.size, 1, none⟩ (.int .u32 p.t.src)).setCell ⟨w.heap.size, 2, none⟩ (.int .u32 p.t.dst)).setCell ⟨w.heap.size, 3, none⟩ (.int .i64 p.t.proto)).setCell ⟨w.heap.size, 4, none⟩ (.int .i64 p.t.sport)).setCell ⟨w.heap.size, 5, none⟩ (.int .i64 p.t.dport)).setCell ⟨w.heap.size, 6, none⟩ (.int .i64 p.fb)).setCell ⟨w.heap.size, 7, none⟩ (.int .i64 p.fg)).setCell ⟨w.heap.size, 8, none⟩ (.int .i64 p.fs)).setCell ⟨w.heap.size, 9, none⟩ (.int .i64 p.gen)).setCell ⟨w.heap.size, 10, none⟩ (.slice a4 p.bs.length c4)).setCell ⟨w.heap.size, 11, none⟩ (.int .i64 p.be)).setCell ⟨w.heap.size, 12, none⟩ (.int .i64 p.un)).setCell ⟨w.heap.size, 13, none⟩ (.int .i64 p.ct)) = w6 at *
      have tB := touch14 w6 W1.heap.size (.int .i64 q.kind) (.int .u32 q.t.src) (.int .u32 q.t.dst) (.int .i64 q.t.proto) (.int .i64 q.t.sport) (.int .i64 q.t.dport) (.int .i64 q.fb) (.int .i64 q.fg) (.int .i64 q.fs) (.int .i64 q.gen) (.slice a5 q.bs.length c5) (.int .i64 q.be) (.int .i64 q.un) (.int .i64 q.ct)
      exact ⟨a4, c4, a5, c5, tB.keeps gA (fun h => by omega), cells14 kB _ _ _ _ _ _ _ _ _ _ _ _ _ _, r1.touch tB (fun x hx => .inr (fun h => by have := L1.out x hx; omega)), r2.touch tB (fun x hx => .inr (fun h => by have := L2.out x hx; omega)), tt.trans tB (fun k h1 h2 => by omega)⟩)
  case rest =>
    obtain ⟨a4, c4, a5, c5, h1, h2, hr1, hr2, ht⟩ := hcut
    have HT := Lib.hid ht
    have HR1 := Lib.hid hr1
    have HR2 := Lib.hid hr2
    have hv : (p.val = q.val) = (p.kind = q.kind ∧ (p.t.src = q.t.src ∧ p.t.dst = q.t.dst ∧ p.t.proto = q.t.proto ∧ p.t.sport = q.t.sport ∧ p.t.dport = q.t.dport) ∧ (p.fb = q.fb ∧ p.fg = q.fg ∧ p.fs = q.fs) ∧ p.gen = q.gen ∧ p.bs.map BkD.val = q.bs.map BkD.val ∧ p.be = q.be ∧ p.un = q.un ∧ p.ct = q.ct) := val_eq p q
    obtain ⟨k0, k1, k2, k3, k4, k5, k6, k7, k8, k9, k10, k11, k12, k13⟩ := rcells_of h1
    obtain ⟨m0, m1, m2, m3, m4, m5, m6, m7, m8, m9, m10, m11, m12, m13⟩ := rcells_of h2
    have HV := Lib.hid hv
    clear hr1 hr2 ht h1 h2 hv
    go_wp2_with (go_at_call 35; (with_reducible refine (rsameK_any _ _ _ _ _ _ _ _ _ HR1.out HR2.out).mono ?_); rintro e w7 ⟨rfl, n7, rfl⟩)
    all_goals (
      go_ret
      have hv := HV.out
      refine ⟨?_, by first | exact HT.out | exact HT.out.drewN _⟩
      rw [HEQ.out]
      refine ret_iff _ ?_
      rw [hv]
      by_cases hk : p.bs.map BkD.val = q.bs.map BkD.val
      · have hs : sameK p.bs q.bs = true := decide_eq_true hk
        simp only [hk, true_and]
        first
          | (rw [hs]; simp only [true_iff]; omega)
          | (simp only [beq_iff_eq]; omega)
          | (simp only [Bool.false_eq_true, false_iff]; omega)
          | (exfalso; simp_all; done)
      · have hs : sameK p.bs q.bs = false := decide_eq_false hk
        simp only [hk, false_and, and_false, iff_false]
        first
          | (rw [hs]; exact Bool.false_ne_true)
          | (exact Bool.false_ne_true)
          | (exfalso; simp_all; done))
end Go.Proofs.YtdhimlkndpiacaaGreat
