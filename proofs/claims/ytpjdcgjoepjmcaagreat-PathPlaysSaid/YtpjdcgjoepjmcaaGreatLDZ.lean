import Derived.Test.YtpjdcgjoepjmcaaGreatHDZ
import Derived.Test.YtpjdcgjoepjmcaaGreatKPZ
import Derived.Test.YtpjdcgjoepjmcaaGreatHAZ
import Derived.Deep.DeepCutAuto
import Derived.Test.YtpjdcgjoepjmcaaGreatLCZ
import Derived.Test.YtpjdcgjoepjmcaaGreatKNZ
set_option linter.unusedVariables false
set_option linter.unusedSimpArgs false
section
namespace Go.Proofs.YtpjdcgjoepjmcaaGreat
open Go.RowKit
set_option maxRecDepth 20000 in
set_option maxHeartbeats 8000000 in
theorem rsame_any (r : RecD) (a : Option Addr) (cap : Nat) (s : RecD) (a2 : Option Addr) (cap2 : Nat) (w : World) (hr : RowK w a r.bs.length cap r.bs) (hl : r.bs.length ≤ 100000) (hr2 : RowK w a2 s.bs.length cap2 s.bs) (hl2 : s.bs.length ≤ 100000) :
 Calls Tryz.prog 34 #[.agg (rcs r a cap), .agg (rcs s a2 cap2)] w fun e w' => e = .returned (.bool (sameR r s)) ∧ Touch w w' (fun _ => False) := by
 obtain ⟨W1, hW1⟩ : ∃ W, w.alloc (.cells (rcs r a cap) 85) = W := ⟨_, rfl⟩
 obtain ⟨W2, hW2⟩ : ∃ W, W1.alloc (.cells (rcs s a2 cap2) 85) = W := ⟨_, rfl⟩
 have t1 : Touch w W1 (fun _ => False) := hW1 ▸ (Touch.refl _ _).alloc _
 have t2 : Touch W1 W2 (fun _ => False) := hW2 ▸ (Touch.refl _ _).alloc _
 have hg1 : W1.heap[w.heap.size]? = some (.cells (rcs r a cap) 85 (0, 0)) := hW1 ▸ heap_alloc_new w _
 have hg2 : W2.heap[W1.heap.size]? = some (.cells (rcs s a2 cap2) 85 (0, 0)) := hW2 ▸ heap_alloc_new W1 _
 have HSZ : RowKit.Hid (w.heap.size < W1.heap.size) := Lib.hid (heap_lt hg1)
 have HSZ2 : RowKit.Hid (W1.heap.size < W2.heap.size) := Lib.hid (heap_lt hg2)
 have t3 := t2.drew
 have HT := Lib.hid (t1.trans t3 (fun _ _ h => h))
 have HA := Lib.hid (t3.keeps hg1 (fun h => h))
 have HB : RowKit.Hid (W2.drew.heap[W1.heap.size]? = some (.cells (rcs s a2 cap2) 85 (0, 0))) := Lib.hid hg2
 have HX := Lib.hid (hr.still HT.out)
 have HY := Lib.hid (hr2.still HT.out)
 have HIR := Lib.hid infoRec
 obtain ⟨p, hp⟩ : ∃ p, plainD r = p := ⟨_, rfl⟩
 obtain ⟨q, hq⟩ : ∃ q, plainD s = q := ⟨_, rfl⟩
 have HC1 : RowKit.Hid (∀ wx, RowK wx a r.bs.length cap r.bs → Calls Tryz.prog 68 #[.agg (rcs r a cap)] wx fun e w' => RecIs wx w' p e) := Lib.hid (fun wx h => hp ▸ rplain_any r a cap wx h hl)
 have HC2 : RowKit.Hid (∀ wx, RowK wx a2 s.bs.length cap2 s.bs → Calls Tryz.prog 68 #[.agg (rcs s a2 cap2)] wx fun e w' => RecIs wx w' q e) := Lib.hid (fun wx h => hq ▸ rplain_any s a2 cap2 wx h hl2)
 have HEQ : RowKit.Hid (sameR r s = decide (p.val = q.val)) := Lib.hid (by unfold sameR; rw [hp, hq])
 simp only [rcs] at hW1 hW2
 clear hr hr2 t1 t2 t3 hg1 hg2 hp hq
 simp only [rcs]
 go_enter Tryz.func34, Tryz.ntmps34
 go_upto_region 1 with fail
 go_cut [8] (fun x wx => SameAt w w.heap.size W1.heap.size p q x wx)
 case first =>
  go_wp2_with fail
  have hne1 : (w.heap.size = W1.heap.size) = False := eq_false (by have := HSZ.out; omega)
  have hne2 : (W1.heap.size = w.heap.size) = False := eq_false (by have := HSZ.out; omega)
  obtain ⟨k0, k1, k2, k3, k4, k5, k6, k7, k8, k9, k10, k11, k12, k13⟩ := rcells_of HA.out
  obtain ⟨m0, m1, m2, m3, m4, m5, m6, m7, m8, m9, m10, m11, m12, m13⟩ := rcells_of HB.out
  have fa := free_of_cells HA.out
  have fb := free_of_cells HB.out
  go_region_with (first
   | (have _u := H1; go_at_call 68; refine (HC2.out _ HY.out).mono ?_; rintro e w5 ⟨a5, c5, rfl, ho5, t5⟩; simp only [rcs]; have H1 := Lib.hid (H1.out.still t5); have H2 := Lib.hid ho5.row.2.1; have L2 : RowKit.Hid (∀ x, a5 = some x → W2.heap.size ≤ x.block) := Lib.hid (fun x hx => Nat.le_trans L3.out (ho5.row.2.2 x hx).1); have HT := Lib.hid (HT.out.trans t5 (fun _ _ h => h)); have HA := Lib.hid (t5.keeps HA.out (fun h => h)); have HB := Lib.hid (t5.keeps HB.out (fun h => h)); clear ho5 t5; clear k0 k1 k2 k3 k4 k5 k6 k7 k8 k9 k10 k11 k12 k13 m0 m1 m2 m3 m4 m5 m6 m7 m8 m9 m10 m11 m12 m13 fa fb; obtain ⟨k0, k1, k2, k3, k4, k5, k6, k7, k8, k9, k10, k11, k12, k13⟩ := rcells_of HA.out; obtain ⟨m0, m1, m2, m3, m4, m5, m6, m7, m8, m9, m10, m11, m12, m13⟩ := rcells_of HB.out; have fa := free_of_cells HA.out; have fb := free_of_cells HB.out)
   | (go_at_call 68; refine (HC1.out _ HX.out).mono ?_; rintro e w4 ⟨a4, c4, rfl, ho4, t4⟩; simp only [rcs]; have H1 := Lib.hid ho4.row.2.1; have L1 : RowKit.Hid (∀ x, a4 = some x → W2.heap.size ≤ x.block) := Lib.hid (fun x hx => (ho4.row.2.2 x hx).1); have L3 := Lib.hid t4.size; have HT := Lib.hid (HT.out.trans t4 (fun _ _ h => h)); have HA := Lib.hid (t4.keeps HA.out (fun h => h)); have HB := Lib.hid (t4.keeps HB.out (fun h => h)); have HY := Lib.hid (HY.out.still t4); clear ho4 t4; clear k0 k1 k2 k3 k4 k5 k6 k7 k8 k9 k10 k11 k12 k13 m0 m1 m2 m3 m4 m5 m6 m7 m8 m9 m10 m11 m12 m13 fa fb; obtain ⟨k0, k1, k2, k3, k4, k5, k6, k7, k8, k9, k10, k11, k12, k13⟩ := rcells_of HA.out; obtain ⟨m0, m1, m2, m3, m4, m5, m6, m7, m8, m9, m10, m11, m12, m13⟩ := rcells_of HB.out; have fa := free_of_cells HA.out; have fb := free_of_cells HB.out))
  all_goals (
   go_wp2_with fail
   go_meet
   have hA := HA.out
   have hB := HB.out
   simp only [rcs] at hA hB
   have tA := touch14 w5 w.heap.size (.int .i64 p.kind) (.int .u32 p.t.src) (.int .u32 p.t.dst) (.int .i64 p.t.proto) (.int .i64 p.t.sport) (.int .i64 p.t.dport) (.int .i64 p.fb) (.int .i64 p.fg) (.int .i64 p.fs) (.int .i64 p.gen) (.slice a4 p.bs.length c4) (.int .i64 p.be) (.int .i64 p.un) (.int .i64 p.ct)
   have gA := cells14 hA (.int .i64 p.kind) (.int .u32 p.t.src) (.int .u32 p.t.dst) (.int .i64 p.t.proto) (.int .i64 p.t.sport) (.int .i64 p.t.dport) (.int .i64 p.fb) (.int .i64 p.fg) (.int .i64 p.fs) (.int .i64 p.gen) (.slice a4 p.bs.length c4) (.int .i64 p.be) (.int .i64 p.un) (.int .i64 p.ct)
   have kB := tA.keeps hB (fun h => by have := HSZ.out; omega)
   have n1 := HSZ.out
   have n2 := HSZ2.out
   have r1 := H1.out.touch tA (fun x hx => .inr (fun h => by have := L1.out x hx; omega))
   have r2 := H2.out.touch tA (fun x hx => .inr (fun h => by have := L2.out x hx; omega))
   have tt := HT.out.trans tA (fun k h1 h2 => by omega)
   generalize ((((((((((((((w5.setCell ⟨w.heap.size, 0, none⟩ (.int .i64 p.kind)).setCell ⟨w.heap.size, 1, none⟩ (.int .u32 p.t.src)).setCell ⟨w.heap.size, 2, none⟩ (.int .u32 p.t.dst)).setCell ⟨w.heap.size, 3, none⟩ (.int .i64 p.t.proto)).setCell ⟨w.heap.size, 4, none⟩ (.int .i64 p.t.sport)).setCell ⟨w.heap.size, 5, none⟩ (.int .i64 p.t.dport)).setCell ⟨w.heap.size, 6, none⟩ (.int .i64 p.fb)).setCell ⟨w.heap.size, 7, none⟩ (.int .i64 p.fg)).setCell ⟨w.heap.size, 8, none⟩ (.int .i64 p.fs)).setCell ⟨w.heap.size, 9, none⟩ (.int .i64 p.gen)).setCell ⟨w.heap.size, 10, none⟩ (.slice a4 p.bs.length c4)).setCell ⟨w.heap.size, 11, none⟩ (.int .i64 p.be)).setCell ⟨w.heap.size, 12, none⟩ (.int .i64 p.un)).setCell ⟨w.heap.size, 13, none⟩ (.int .i64 p.ct)) = w6 at *
   have tB := touch14 w6 W1.heap.size (.int .i64 q.kind) (.int .u32 q.t.src) (.int .u32 q.t.dst) (.int .i64 q.t.proto) (.int .i64 q.t.sport) (.int .i64 q.t.dport) (.int .i64 q.fb) (.int .i64 q.fg) (.int .i64 q.fs) (.int .i64 q.gen) (.slice a5 q.bs.length c5) (.int .i64 q.be) (.int .i64 q.un) (.int .i64 q.ct)
   exact ⟨a4, c4, a5, c5, tB.keeps gA (fun h => by omega), cells14 kB _ _ _ _ _ _ _ _ _ _ _ _ _ _, r1.touch tB (fun x hx => .inr (fun h => by have := L1.out x hx; omega)), r2.touch tB (fun x hx => .inr (fun h => by have := L2.out x hx; omega)), tt.trans tB (fun k h1 h2 => by omega)⟩)
 case rest =>
  obtain ⟨a4, c4, a5, c5, h1, h2, hr1, hr2, ht⟩ := hcut
  have HT := Lib.hid ht
  have HR1 := Lib.hid hr1
  have HR2 := Lib.hid hr2
  have hv : (p.val = q.val) = (p.kind = q.kind ∧ (p.t.src = q.t.src ∧ p.t.dst = q.t.dst ∧ p.t.proto = q.t.proto ∧ p.t.sport = q.t.sport ∧ p.t.dport = q.t.dport) ∧ (p.fb = q.fb ∧ p.fg = q.fg ∧ p.fs = q.fs) ∧ p.gen = q.gen ∧ p.bs.map BkD.val = q.bs.map BkD.val ∧ p.be = q.be ∧ p.un = q.un ∧ p.ct = q.ct) := val_eq p q
  obtain ⟨k0, k1, k2, k3, k4, k5, k6, k7, k8, k9, k10, k11, k12, k13⟩ := rcells_of h1
  obtain ⟨m0, m1, m2, m3, m4, m5, m6, m7, m8, m9, m10, m11, m12, m13⟩ := rcells_of h2
  have HV := Lib.hid hv
  clear hr1 hr2 ht h1 h2 hv
  go_wp2_with (go_at_call 69; (with_reducible refine (rsameK_any _ _ _ _ _ _ _ _ _ HR1.out HR2.out).mono ?_); rintro e w7 ⟨rfl, n7, rfl⟩)
  all_goals (
   go_ret
   have hv := HV.out
   refine ⟨?_, by first | exact HT.out | exact HT.out.drewN _⟩
   rw [HEQ.out]
   refine ret_iff _ ?_
   rw [hv]
   by_cases hk : p.bs.map BkD.val = q.bs.map BkD.val
   ·have hs : sameK p.bs q.bs = true := decide_eq_true hk
    simp only [hk, true_and]
    first
     | (rw [hs]; simp only [true_iff]; omega)
     | (simp only [beq_iff_eq]; omega)
     | (simp only [Bool.false_eq_true, false_iff]; omega)
     | (exfalso; simp_all; done)
   ·have hs : sameK p.bs q.bs = false := decide_eq_false hk
    simp only [hk, false_and, and_false, iff_false]
    first
     | (rw [hs]; exact Bool.false_ne_true)
     | (exact Bool.false_ne_true)
     | (exfalso; simp_all; done))
end Go.Proofs.YtpjdcgjoepjmcaaGreat
end
section
namespace Go.Proofs.YtpjdcgjoepjmcaaGreat
open Go.RowKit
def noRD : RecD := ⟨0, noT, 0, 0, 0, 0, [], 0, 0, 0⟩
def grd (l : List RecD) (k : Nat) : RecD := l.getD k noRD
theorem grd_get (l : List RecD) (k : Nat) (h : k < l.length) : l[k] = grd l k := by
 unfold grd; rw [List.getD_eq_getElem?_getD, List.getElem?_eq_getElem h]; rfl
theorem grd_mem (l : List RecD) (k : Nat) (h : k < l.length) : grd l k ∈ l := by rw [← grd_get l k h]; exact List.getElem_mem h
theorem rcl_cells {w : World} {g off n cap : Nat} {l : List RecD} (h : RowS w (some ⟨g, off, none⟩) n cap 14 (l.map rcl)) (k : Nat) (hk : k < l.length) :
 w.cell? ⟨g, off + k * 14, none⟩ = some (.int .i64 (grd l k).kind) ∧ w.cell? ⟨g, off + k * 14 + 1, none⟩ = some (.int .u32 (grd l k).t.src) ∧ w.cell? ⟨g, off + k * 14 + 2, none⟩ = some (.int .u32 (grd l k).t.dst) ∧ w.cell? ⟨g, off + k * 14 + 3, none⟩ = some (.int .i64 (grd l k).t.proto) ∧ w.cell? ⟨g, off + k * 14 + 4, none⟩ = some (.int .i64 (grd l k).t.sport) ∧ w.cell? ⟨g, off + k * 14 + 5, none⟩ = some (.int .i64 (grd l k).t.dport) ∧ w.cell? ⟨g, off + k * 14 + 6, none⟩ = some (.int .i64 (grd l k).fb) ∧ w.cell? ⟨g, off + k * 14 + 7, none⟩ = some (.int .i64 (grd l k).fg) ∧ w.cell? ⟨g, off + k * 14 + 8, none⟩ = some (.int .i64 (grd l k).fs) ∧ w.cell? ⟨g, off + k * 14 + 9, none⟩ = some (.int .i64 (grd l k).gen) ∧ w.cell? ⟨g, off + k * 14 + 10, none⟩ = some (.slice none (grd l k).bs.length 0) ∧ w.cell? ⟨g, off + k * 14 + 11, none⟩ = some (.int .i64 (grd l k).be) ∧ w.cell? ⟨g, off + k * 14 + 12, none⟩ = some (.int .i64 (grd l k).un) ∧ w.cell? ⟨g, off + k * 14 + 13, none⟩ = some (.int .i64 (grd l k).ct) := by
 have hk' : k < (l.map rcl).length := by simpa using hk
 have e : (l.map rcl)[k] = rcl (grd l k) := by rw [List.getElem_map, grd_get l k hk]
 have hc : ∀ j u, (rcl (grd l k))[j]? = some u → w.cell? ⟨g, off + k * 14 + j, none⟩ = some u := fun j u hu => RowS.cell h k hk' j u (by rw [e]; exact hu)
 exact ⟨hc 0 _ rfl, hc 1 _ rfl, hc 2 _ rfl, hc 3 _ rfl, hc 4 _ rfl, hc 5 _ rfl, hc 6 _ rfl, hc 7 _ rfl, hc 8 _ rfl, hc 9 _ rfl, hc 10 _ rfl, hc 11 _ rfl, hc 12 _ rfl, hc 13 _ rfl⟩
theorem enter_rsameR0 (a b : Value) (w : World) : (callFunc 34 #[a, b]).run Tryz.prog w = .ok (.enter 34 #[a, b]) w := by kernel_rfl
set_option maxRecDepth 20000 in
set_option maxHeartbeats 8000000 in
theorem rsrecs0_any (w : World) (a : Option Addr) (n c : Nat) (l : List RecD) (a2 : Option Addr) (c2 : Nat) (hr : RowS w a n c 14 (l.map rcl)) (hr2 : RowS w a2 n c2 14 (l.map rcl)) (hb : ∀ y ∈ l, y.bs = []) :
 Calls Tryz.prog 22 #[.slice a n c, .slice a2 n c2] w fun e w' => e = .returned (.bool true) ∧ Touch w w' (fun _ => False) := by
 have hl1 : l.length = n := by have := hr.hlen; simpa using this
 have hcap := hr.hmax
 have hcap1 := hr.hcap
 have hcap2 := hr2.hcap
 have HR := Lib.hid hr
 have HR2 := Lib.hid hr2
 have HLL := Lib.hid hl1
 have HB := Lib.hid hb
 have hbn : ((n : Int) != (n : Int)) = false := bne_eq_false_iff_eq.2 rfl
 clear hr hr2 hl1 hb
 go_enter Tryz.func22, Tryz.ntmps22
 go_wp2_with fail
 go_loopw [13] (fun s13 wr => ∃ k : Nat, k ≤ n ∧ s13 = .int .i64 k ∧ Touch w wr (fun _ => False)) (fun s13 _ => n - (RowKit.intOf s13).toNat)
 case atStart => exact ⟨0, Nat.zero_le _, rfl, Touch.refl _ _⟩
 case round =>
  obtain ⟨k, hk, rfl, ht⟩ := hrel
  have HT := Lib.hid ht
  clear ht
  by_cases hlt : k < n
  case neg =>
   obtain rfl : n = k := by omega
   have hlI : ¬ (n : Int) < n := by omega
   go_wp2_with fail
   go_ret
   exact ⟨rfl, HT.out⟩
  case pos =>
   have hlI : (k : Int) < n := by omega
   have hq := HR.out.still HT.out
   have hq2 := HR2.out.still HT.out
   obtain ⟨g, off, rfl⟩ := hq.some (by omega)
   obtain ⟨g2, off2, rfl⟩ := hq2.some (by omega)
   have hk1 : k < l.length := by rw [HLL.out]; exact hlt
   have HB1 := Lib.hid (HB.out _ (grd_mem l k hk1))
   have HD : RowKit.Hid (∀ W, Touch wr W (fun _ => False) → _) := Lib.hid (fun W t => rcl_cells (RowS.still hq t) k hk1)
   have HE : RowKit.Hid (∀ W, Touch wr W (fun _ => False) → _) := Lib.hid (fun W t => rcl_cells (RowS.still hq2 t) k hk1)
   obtain ⟨y, hy⟩ : ∃ y, grd l k = y := ⟨_, rfl⟩
   rw [hy] at HB1 HD HE
   have HSM : RowKit.Hid (∀ W, Touch wr W (fun _ => False) → Calls Tryz.prog 34 #[.agg (rcs y none 0), .agg (rcs y none 0)] W fun e w' => e = .returned (.bool true) ∧ Touch W w' (fun _ => False)) := Lib.hid (fun W t => by
    have e0 := HB1.out
    have h0 : RowK W none y.bs.length 0 y.bs := by rw [e0]; exact RowS.nil _ _ _ _ (by omega)
    have h := rsame_any y none 0 y none 0 W h0 (by rw [e0]; simp) h0 (by rw [e0]; simp)
    have hs : sameR y y = true := (sameR_iff _ _).2 rfl
    rw [hs] at h
    exact h)
   simp only [rcs] at HSM
   clear hy hq hq2 hk1
   have hS0 : RowKit.Hid (Touch wr wr (fun _ => False)) := Lib.hid (Touch.refl _ _)
   go_upto_region 6 with (fail)
   have hS := (Touch.refl wr (fun _ => False)).drew
   refine wp_region_sched (fun w' => Touch wr w' (fun _ => False)) [(0, true), (1, true), (2, true), (3, true), (4, true), (5, true), (6, true), (7, true), (8, false), (9, true)] (by kernel_rfl) (by kernel_rfl) rfl (by kernel_rfl) hS ?_
   iterate 3 ((refine walkS_take (v := ?_) (some _) rfl rfl (fun _ _ _ h => h) (by rfl) ?_ ?_; rotate_left; (focus (intro w' hw'; go_simp; (try with_reducible rfl))); (try simp only [Act.put, List.setIfInBounds_toArray, List.set_cons_zero, List.set_cons_succ])))
   (refine walkS_take (v := ?_) (some 19) rfl rfl (fun _ _ _ h => h) (by rfl) ?_ ?_; rotate_left; (focus (intro w' hw'; obtain ⟨d0, d1, d2, d3, d4, d5, d6, d7, d8, d9, d10, d11, d12, d13⟩ := HD.out w' hw'; go_simp; (try with_reducible rfl))); (try simp only [Act.put, List.setIfInBounds_toArray, List.set_cons_zero, List.set_cons_succ]))
   iterate 3 ((refine walkS_take (v := ?_) (some _) rfl rfl (fun _ _ _ h => h) (by rfl) ?_ ?_; rotate_left; (focus (intro w' hw'; go_simp; (try with_reducible rfl))); (try simp only [Act.put, List.setIfInBounds_toArray, List.set_cons_zero, List.set_cons_succ])))
   (refine walkS_take (v := ?_) (some 23) rfl rfl (fun _ _ _ h => h) (by rfl) ?_ ?_; rotate_left; (focus (intro w' hw'; obtain ⟨e0, e1, e2, e3, e4, e5, e6, e7, e8, e9, e10, e11, e12, e13⟩ := HE.out w' hw'; go_simp; (try with_reducible rfl))); (try simp only [Act.put, List.setIfInBounds_toArray, List.set_cons_zero, List.set_cons_succ]))
   (refine walkS_call 24 _ _ _ _ ((HSM.out _ hS)) rfl rfl rfl (by rfl) rfl (enter_rsameR0 _ _ _) ?_; rintro e w' ⟨rfl, t⟩; have hS := hS.trans t (fun _ _ h => h); clear t; refine ⟨_, rfl, hS, fun hS => ?_⟩; (try simp only [Act.put, List.setIfInBounds_toArray, List.set_cons_zero, List.set_cons_succ]))
   (refine walkS_take (v := ?_) (some 25) rfl rfl (fun _ _ _ h => h) (by rfl) ?_ ?_; rotate_left; (focus (intro w' hw'; go_simp; (try with_reducible rfl))); (try simp only [Act.put, List.setIfInBounds_toArray, List.set_cons_zero, List.set_cons_succ]))
   refine walkS_done ?_
   have HX : RowKit.Hid (∀ W, Touch wr W (fun _ => False) → Touch w W (fun _ => False)) := Lib.hid (fun W t => HT.out.trans t (fun _ _ h => h))
   have HS := Lib.hid (HX.out _ hS)
   clear hS
   go_wp2_with fail
   go_roundw
   ·exact ⟨k + 1, by omega, by go_num, HS.out⟩
   ·simp only [RowKit.intOf]; omega
end Go.Proofs.YtpjdcgjoepjmcaaGreat
end
section
namespace Go.Proofs.YtpjdcgjoepjmcaaGreat
open Go.RowKit
set_option maxRecDepth 20000 in
set_option maxHeartbeats 8000000 in
theorem out23_any (v r i : Int) (pa : Option Addr) (pn pc : Nat) (pa2 : Option Addr) (pn2 pc2 : Nat) (ys : List Nat) (w : World) (h1 : RowB w pa pn pc ys) (h2 : RowB w pa2 pn2 pc2 ys) :
 Calls Tryz.prog 21 #[.agg #[.int .i64 v, .int .i64 r, .int .i64 i, .slice pa pn pc], .agg #[.int .i64 v, .int .i64 r, .int .i64 i, .slice pa2 pn2 pc2]] w fun e w' => e = .returned (.bool true) ∧ Touch w w' (fun _ => False) := by
 obtain ⟨W1, hW1⟩ : ∃ W, w.alloc (.cells #[.int .i64 v, .int .i64 r, .int .i64 i, .slice pa pn pc] 50) = W := ⟨_, rfl⟩
 obtain ⟨W2, hW2⟩ : ∃ W, W1.alloc (.cells #[.int .i64 v, .int .i64 r, .int .i64 i, .slice pa2 pn2 pc2] 50) = W := ⟨_, rfl⟩
 have t1 : Touch w W1 (fun _ => False) := hW1 ▸ (Touch.refl w _).alloc _
 have t2 : Touch W1 W2 (fun _ => False) := hW2 ▸ (Touch.refl W1 _).alloc _
 have g1 : W2.heap[w.heap.size]? = some (.cells #[.int .i64 v, .int .i64 r, .int .i64 i, .slice pa pn pc] 50 (0, 0)) := t2.keeps (hW1 ▸ heap_alloc_new ..) (fun h => h)
 have sa : W1.heap.size = w.heap.size + 1 := by rw [← hW1]; simp
 have g2 : W2.heap[w.heap.size + 1]? = some (.cells #[.int .i64 v, .int .i64 r, .int .i64 i, .slice pa2 pn2 pc2] 50 (0, 0)) := by rw [← sa]; exact hW2 ▸ heap_alloc_new ..
 have t12 := t1.trans t2 (fun _ _ h => h)
 obtain ⟨p0, p1, p2, p3⟩ : W2.cell? ⟨w.heap.size, 0, none⟩ = some (.int .i64 v) ∧ W2.cell? ⟨w.heap.size, 1, none⟩ = some (.int .i64 r) ∧ W2.cell? ⟨w.heap.size, 2, none⟩ = some (.int .i64 i) ∧ W2.cell? ⟨w.heap.size, 3, none⟩ = some (.slice pa pn pc) := ⟨cell_of_cells g1 0, cell_of_cells g1 1, cell_of_cells g1 2, cell_of_cells g1 3⟩
 obtain ⟨o0, o1, o2, o3⟩ : W2.cell? ⟨w.heap.size + 1, 0, none⟩ = some (.int .i64 v) ∧ W2.cell? ⟨w.heap.size + 1, 1, none⟩ = some (.int .i64 r) ∧ W2.cell? ⟨w.heap.size + 1, 2, none⟩ = some (.int .i64 i) ∧ W2.cell? ⟨w.heap.size + 1, 3, none⟩ = some (.slice pa2 pn2 pc2) := ⟨cell_of_cells g2 0, cell_of_cells g2 1, cell_of_cells g2 2, cell_of_cells g2 3⟩
 have k1 := run_string_of (P := Tryz.prog) (h1.touch t12 (fun _ _ => .inr (fun h => h))) 38 9 5 Tryz.underlying38 Tryz.underlying5 Tryz.underlying9
 have k2 := run_string_of (P := Tryz.prog) (h2.touch t12 (fun _ _ => .inr (fun h => h))) 38 9 5 Tryz.underlying38 Tryz.underlying5 Tryz.underlying9
 obtain ⟨S, hS⟩ : ∃ S, strB ys = S := ⟨_, rfl⟩
 rw [hS] at k1 k2
 have HW := Lib.hid (And.intro hW1 hW2)
 have HT := Lib.hid t12
 clear sa t1 t2 g1 g2 t12 h1 h2 hW1 hW2 hS
 go_enter Tryz.func21, Tryz.ntmps21
 go_upto_region 1 with (fail)
 rw [HW.out.1, HW.out.2]
 go_wp2_with fail
 go_ret
 exact ⟨rfl, HT.out⟩
end Go.Proofs.YtpjdcgjoepjmcaaGreat
end
section
namespace Go.Proofs.YtpjdcgjoepjmcaaGreat
open Go.RowKit
theorem modP (x m : Int) (h0 : 0 < m) (h1 : m ≤ 10000) : ∃ N : Nat, wrap64 ((IntKind.u64.wrap x).tmod m) = (N : Int) ∧ (N : Int) < m := by
 have hu : 0 ≤ IntKind.u64.wrap x := by simp only [IntKind.wrap_u64]; omega
 have h2 : (IntKind.u64.wrap x).tmod m = (IntKind.u64.wrap x) % m := Int.tmod_eq_emod_of_nonneg hu
 have h3 := Int.emod_nonneg (IntKind.u64.wrap x) (show m ≠ 0 by omega)
 have h4 := Int.emod_lt_of_pos (IntKind.u64.wrap x) h0
 rw [h2]
 generalize (IntKind.u64.wrap x) % m = y at *
 refine ⟨y.toNat, ?_, by omega⟩
 unfold wrap64
 omega
theorem call12 {W : World} {B : Nat} {u0 u1 u2 u3 u4 u5 u6 u7 u8 u9 u10 u11 : Value} {T : TypeId} (h : W.heap[B]? = some (.cells #[u0, u1, u2, u3, u4, u5, u6, u7, u8, u9, u10, u11] T (0, 0))) :
 W.cell? ⟨B, 0, none⟩ = some u0 ∧ W.cell? ⟨B, 1, none⟩ = some u1 ∧ W.cell? ⟨B, 2, none⟩ = some u2 ∧ W.cell? ⟨B, 3, none⟩ = some u3 ∧ W.cell? ⟨B, 4, none⟩ = some u4 ∧ W.cell? ⟨B, 5, none⟩ = some u5 ∧ W.cell? ⟨B, 6, none⟩ = some u6 ∧ W.cell? ⟨B, 7, none⟩ = some u7 ∧ W.cell? ⟨B, 8, none⟩ = some u8 ∧ W.cell? ⟨B, 9, none⟩ = some u9 ∧ W.cell? ⟨B, 10, none⟩ = some u10 ∧ W.cell? ⟨B, 11, none⟩ = some u11 :=
 ⟨cell_of_cells h 0, cell_of_cells h 1, cell_of_cells h 2, cell_of_cells h 3, cell_of_cells h 4, cell_of_cells h 5, cell_of_cells h 6, cell_of_cells h 7, cell_of_cells h 8, cell_of_cells h 9, cell_of_cells h 10, cell_of_cells h 11⟩
theorem cfg8 {W : World} {B : Nat} {self slots flows cidle mtu seg quota ver : Int} {T : TypeId} (h : W.heap[B]? = some (.cells (cfgC self slots flows cidle mtu seg quota ver) T (0, 0))) :
 W.cell? ⟨B, 0, none⟩ = some (.int .u32 self) ∧ W.cell? ⟨B, 1, none⟩ = some (.int .i64 slots) ∧ W.cell? ⟨B, 2, none⟩ = some (.int .i64 flows) ∧ W.cell? ⟨B, 3, none⟩ = some (.int .i64 cidle) ∧ W.cell? ⟨B, 4, none⟩ = some (.int .i64 mtu) ∧ W.cell? ⟨B, 5, none⟩ = some (.int .i64 seg) ∧ W.cell? ⟨B, 6, none⟩ = some (.int .i64 quota) ∧ W.cell? ⟨B, 7, none⟩ = some (.int .i64 ver) :=
 ⟨cell_of_cells h 0, cell_of_cells h 1, cell_of_cells h 2, cell_of_cells h 3, cell_of_cells h 4, cell_of_cells h 5, cell_of_cells h 6, cell_of_cells h 7⟩
set_option maxRecDepth 20000 in
set_option maxHeartbeats 4000000 in
theorem bytesP_any (d ttl fl : Int) (t : TupD) (ot : TupOk t) (ba : Option Addr) (bn bc : Nat) (xs : List Nat) (now : Int) (la : Option Addr) (ln lc : Nat) (oa : Option Addr) (on oc : Nat) (W : World) (hr : RowB W ba bn bc xs) (hbn : bn ≤ 1500) (ht : isI64 ttl) (hf : isI64 fl) :
 Calls Tryz.prog 17 #[.agg #[.int .i64 d, .int .i64 ttl, .int .i64 fl, .int .u32 t.src, .int .u32 t.dst, .int .i64 t.proto, .int .i64 t.sport, .int .i64 t.dport, .slice ba bn bc, .int .i64 now, .slice la ln lc, .slice oa on oc]] W fun e w' => ∃ a n cap ys, e = .returned (.slice a n cap) ∧ RowB w' a n cap ys ∧ n ≤ 10000 ∧ ((a = ba ∧ n = bn) ∨ ∀ x, a = some x → W.heap.size ≤ x.block) ∧ Touch W w' (fun _ => False) := by
 obtain ⟨W1, hW1⟩ : ∃ X, W.alloc (.cells #[.int .i64 d, .int .i64 ttl, .int .i64 fl, .int .u32 t.src, .int .u32 t.dst, .int .i64 t.proto, .int .i64 t.sport, .int .i64 t.dport, .slice ba bn bc, .int .i64 now, .slice la ln lc, .slice oa on oc] 42) = X := ⟨_, rfl⟩
 obtain ⟨B, hB⟩ : ∃ B, W.heap.size = B := ⟨_, rfl⟩
 have g1 : W1.heap[B]? = some (.cells #[.int .i64 d, .int .i64 ttl, .int .i64 fl, .int .u32 t.src, .int .u32 t.dst, .int .i64 t.proto, .int .i64 t.sport, .int .i64 t.dport, .slice ba bn bc, .int .i64 now, .slice la ln lc, .slice oa on oc] 42 (0, 0)) := hB ▸ hW1 ▸ heap_alloc_new ..
 have t1 : Touch W W1 (fun _ => False) := hW1 ▸ (Touch.refl W _).alloc _
 have q0 : W1.cell? ⟨B, 0, none⟩ = some (.int .i64 d) := cell_of_cells g1 0
 have q1 : W1.cell? ⟨B, 1, none⟩ = some (.int .i64 ttl) := cell_of_cells g1 1
 have q2 : W1.cell? ⟨B, 2, none⟩ = some (.int .i64 fl) := cell_of_cells g1 2
 have q3 : W1.cell? ⟨B, 3, none⟩ = some (.int .u32 t.src) := cell_of_cells g1 3
 have q4 : W1.cell? ⟨B, 4, none⟩ = some (.int .u32 t.dst) := cell_of_cells g1 4
 have q5 : W1.cell? ⟨B, 5, none⟩ = some (.int .i64 t.proto) := cell_of_cells g1 5
 have q6 : W1.cell? ⟨B, 6, none⟩ = some (.int .i64 t.sport) := cell_of_cells g1 6
 have q7 : W1.cell? ⟨B, 7, none⟩ = some (.int .i64 t.dport) := cell_of_cells g1 7
 have q8 : W1.cell? ⟨B, 8, none⟩ = some (.slice ba bn bc) := cell_of_cells g1 8
 obtain ⟨n, hn⟩ : ∃ n, n = 20 + sizeK (kOf t) bn := ⟨_, rfl⟩
 have HNL : RowKit.Hid (n ≤ 10000) := Lib.hid (by rw [hn]; unfold sizeK; split <;> omega)
 have HMK : RowKit.Hid (Calls Tryz.prog 27 #[.agg (tcs t), .int .i64 ttl, .int .i64 fl, .slice ba bn bc] W1 fun e w' => ∃ a' cap', e = .returned (.slice a' n cap') ∧ FreshB W1 w' (.slice a' n cap') (madeF (kOf t) ttl fl xs)) := Lib.hid (made_any (kOf t) (ok_k ot) ttl fl ba bn bc xs W1 (hr.stillP t1) (by omega) ht hf n hn)
 simp only [tcs] at HMK
 have HW1 := Lib.hid (And.intro hW1 hB)
 have HT1 := Lib.hid t1
 have HR := Lib.hid (hr.stillP t1)
 clear hW1 hB g1 t1 hr hn
 go_enter Tryz.func17, Tryz.ntmps17
 go_upto_region 1 with (fail)
 rw [HW1.out.1, HW1.out.2]
 by_cases hd : d = 1
 ·subst hd
  go_wp2_with fail
  go_ret
  exact ⟨_, _, _, xs, rfl, HR.out, by omega, .inl ⟨rfl, rfl⟩, HT1.out⟩
 ·have hd1 : (d == (1 : Int)) = false := beq_eq_false_iff_ne.2 hd
  go_wp2_with fail
  (with_reducible refine HMK.out.mono ?_)
  rintro e w2 ⟨ma, mc, rfl, hfb⟩
  have HFB := Lib.hid hfb
  clear hfb q0 q1 q2 q3 q4 q5 q6 q7 q8
  go_wp2_with fail
  go_ret
  refine ⟨_, _, _, _, rfl, HFB.out.row'.2, HNL.out, .inr (fun x hx => ?_), HT1.out.trans HFB.out.2 (fun _ _ h => h)⟩
  subst hx
  have h1 := (HFB.out.1.own.lt x.block rfl).1
  have h2 := HT1.out.size
  omega
theorem rowI_lt {w : World} {a : Option Addr} {n c : Nat} {O : List Int} (h : RowI w a n c O) : ∀ x, a = some x → n = 0 ∨ x.block < w.heap.size := by
 intro x hx
 rcases h.2.2.2.2 with h0 | ⟨b, off, h0, h1, -⟩
 ·exact .inl h0
 ·rw [hx] at h0
  obtain rfl := Option.some.inj h0
  exact .inr h1
theorem LikeF.rnd {most : Int} {M L : List FlD} (k : LikeF most M L) : (L.map FlD.t).Nodup := ((k.p.map FlD.t).nodup_iff).2 k.nd
theorem LikeF.rlen {most : Int} {M L : List FlD} (k : LikeF most M L) (h : most ≤ 1000) : L.length ≤ 1000 := by
 have h1 := k.len
 have h2 := k.p.length_eq
 omega
theorem pk_recs {self mtu gen now most : Int} {bs : List BkD} {T : List Int} {n : Nat} {M : List FlD} {xs : List Nat} {v r i : Int} {ys : List Nat} {rs : List RecD} {M' : List FlD} (h : pkF self mtu gen now most bs T n M xs = ⟨v, r, i, ys, rs, M'⟩) : ∀ y ∈ rs, y.bs = [] := by
 have e : rs = (pkF self mtu gen now most bs T n M xs).rs := by rw [h]
 rw [e]
 clear e h
 unfold pkF
 split
 ·intro y hy; cases hy
 ·split
  ·intro y hy; cases hy
  ·split
   ·intro y hy; cases hy
   ·split
    ·intro y hy; cases hy
    ·intro y hy
     have hy : y ∈ keepR _ _ _ _ := hy
     unfold keepR at hy
     split at hy
     ·split at hy
      ·obtain rfl := List.mem_singleton.1 hy; rfl
      ·cases hy
     ·split at hy
      ·cases hy
      ·split at hy
       ·obtain rfl := List.mem_singleton.1 hy; rfl
       ·cases hy
theorem Q.first {w w1 w2 : World} {g : Nat} {h : FH} {most : Int} {C G b X G2 : Nat} (p : PW w w1 g h most 20 [] C 13 [] (tabF [] 13) none 0 0 G 0) (rf : RF w1 b none 0 most 20 []) (hb : w.heap.size ≤ b) (hf : ¬ footF g h b) (hbC : b < C) (hbG : b < G) (hC : w.heap.size ≤ C) (hG : w.heap.size ≤ G) (t : Touch w1 w2 (fun _ => False))
 (hx : w2.heap[X]? = some (.cells (chC 13 none 0 0 (some ⟨G2, 0, none⟩) 13 13 0) 102 (0, 0))) (hX : w1.heap.size ≤ X) (hG2 : w1.heap.size ≤ G2) (hi : RowI w2 (some ⟨G2, 0, none⟩) 13 13 (tabF [] 13)) :
 Q w w2 g C b X most 1 [] [] [] (tabF [] 13) [] (tabF [] 13) [] := by
 have hbl := heap_lt rf.head
 have hXl := heap_lt hx
 obtain ⟨hGl, hc1⟩ : G2 < w2.heap.size ∧ ∃ z, w2.cell? ⟨G2, 1, none⟩ = some (.int .i64 z) := by
  rcases hi.2.2.2.2 with h0 | ⟨b', off, h0, h1, h2⟩
  ·exact absurd h0 (by decide)
  ·simp only [Option.some.injEq, Addr.mk.injEq] at h0
   obtain ⟨rfl, rfl, -⟩ := h0
   have := h2 1 (by rw [hi.1]; omega)
   exact ⟨h1, _, this⟩
 have hXG : X ≠ G2 := by
  rintro rfl
  obtain ⟨z, hz⟩ := hc1
  rw [cell_of_cells hx 1] at hz
  simp [chC] at hz
 have ht := t.size
 refine ⟨h, none, 0, 0, G, 0, none, 0, none, 0, 0, G2, 0, p.still t, rf.still t, ⟨hx, RowS.nil _ _ _ _ (by omega), hi⟩, by omega, by omega, (fun b hb => by cases hb), hC, ⟨hb, by have := p.f.t.size; omega⟩, fun B hB => ?_, ⟨by omega, by omega, hXG, (fun x hx => by cases hx), (fun x hx => by cases hx)⟩, (fun B hB => by cases hB)⟩
 rcases hB with hB | hB | hB | hB | hB | ⟨x, hx', -⟩ | ⟨x, hx', -⟩
 ·exact ⟨by have := p.f.t.size; omega, fun e => by have := p.f.f B e; omega, by omega, .inl rfl, by omega⟩
 ·cases hB
 ·subst hB; exact ⟨by omega, hf, by omega, .inl rfl, by omega⟩
 ·subst hB; exact ⟨hXl, p.new _ hX⟩
 ·subst hB; exact ⟨hGl, p.new _ hG2⟩
 ·cases hx'
 ·cases hx'
section
variable {w w1 : World} {g C b X : Nat} {most : Int} {mb : Nat} {M L : List FlD} {bs : List BkD} {T : List Int} {bs2 : List BkD} {T2 : List Int} {K : List Nat}
theorem Q.ne (q : Q w w1 g C b X most mb M L bs T bs2 T2 K) {B : Nat} (hB : B ∈ K) : ¬ B = b := by
 obtain ⟨h, ab, lb, cb, G, m, a, c, ab2, lb2, cb2, G2, m2, q⟩ := q
 exact fun e => q.kd B hB (.inl e)
theorem Q.neX (q : Q w w1 g C b X most mb M L bs T bs2 T2 K) {B : Nat} (hB : B ∈ K) : ¬ B = X := by
 obtain ⟨h, ab, lb, cb, G, m, a, c, ab2, lb2, cb2, G2, m2, q⟩ := q
 exact fun e => q.kd B hB (.inr (.inl e))
theorem Q.blt (q : Q w w1 g C b X most mb M L bs T bs2 T2 K) : b < w1.heap.size := by
 obtain ⟨h, ab, lb, cb, G, m, a, c, ab2, lb2, cb2, G2, m2, q⟩ := q
 exact heap_lt q.r.head
theorem Q.notB (q : Q w w1 g C b X most mb M L bs T bs2 T2 K) {pa : Option Addr} {n cp : Nat} {ys : List Nat} (hr : RowB w1 pa n cp ys) : ∀ x, pa = some x → n = 0 ∨ ¬ x.block = b := by
 obtain ⟨h, ab, lb, cb, G, m, a, c, ab2, lb2, cb2, G2, m2, q⟩ := q
 exact q.r.notB hr
end
end Go.Proofs.YtpjdcgjoepjmcaaGreat
end
