import Derived.Test.YtpjdcgjoepjmcaaGreatKFZ
import Derived.Deep.CutBlock
import Derived.Deep.RegionHeld3
import Derived.Lib.QuietBelow
import Derived.BigQuiet
set_option linter.unusedVariables false
namespace Go.Proofs.YtpjdcgjoepjmcaaGreat
open Go.RowKit
theorem drew_row {w : World} {g : Nat} {o : Obj} (h : w.heap[g]? = some o) : w.drew.heap[g]? = some o := h
theorem scells_of {w : World} {B b off len cap : Nat} {h : Hdr} {ys : List Nat} (hc : w.heap[B]? = some (.cells (hcs h) 76 (0, 0))) (hr : RowB w (some ⟨b, off, none⟩) len cap ys) (hl : 8 ≤ len) :
 w.cell? ⟨B, 0, none⟩ = some (.int .i64 (h.ihl : Nat)) ∧ w.cell? ⟨B, 1, none⟩ = some (.int .i64 (h.tos : Nat)) ∧ w.cell? ⟨B, 2, none⟩ = some (.int .i64 (h.len : Nat)) ∧ w.cell? ⟨B, 3, none⟩ = some (.int .i64 (h.id : Nat)) ∧ w.cell? ⟨B, 4, none⟩ = some (.int .i64 (h.flags : Nat)) ∧ w.cell? ⟨B, 5, none⟩ = some (.int .i64 (h.off : Nat)) ∧ w.cell? ⟨B, 6, none⟩ = some (.int .i64 (h.ttl : Nat)) ∧ w.cell? ⟨B, 7, none⟩ = some (.int .i64 (h.proto : Nat)) ∧ w.cell? ⟨B, 8, none⟩ = some (.int .i64 (h.sum : Nat)) ∧ w.cell? ⟨B, 9, none⟩ = some (.int .u32 (h.src : Nat)) ∧ w.cell? ⟨B, 10, none⟩ = some (.int .u32 (h.dst : Nat)) ∧
 w.cell? ⟨b, off, none⟩ = some (.int .u8 (gb ys 0 : Nat)) ∧ w.cell? ⟨b, off + 1, none⟩ = some (.int .u8 (gb ys 1 : Nat)) ∧ w.cell? ⟨b, off + 2, none⟩ = some (.int .u8 (gb ys 2 : Nat)) ∧ w.cell? ⟨b, off + 3, none⟩ = some (.int .u8 (gb ys 3 : Nat)) := by
 obtain ⟨c0, c1, c2, c3, c4, c5, c6, c7, c8, c9, c10⟩ := hcells_of hc
 exact ⟨c0, c1, c2, c3, c4, c5, c6, c7, c8, c9, c10, hr.gb 0 (by omega), hr.gb 1 (by omega), hr.gb 2 (by omega), hr.gb 3 (by omega)⟩
set_option maxRecDepth 20000 in
set_option maxHeartbeats 8000000 in
theorem rtuple_any (a : Option Addr) (len cap : Nat) (xs : List Nat) (w : World) (hr : RowB w a len cap xs) (hlen : len ≤ 140737488351232) :
 Calls Tryz.prog 30 #[.slice a len cap] w fun e w' => e = .returned (.tuple #[tv (tellT xs), hv (tellG xs), .int .i64 (whyT xs)]) ∧ Touch w w' (fun _ => False) := by
 have HTy : RowKit.Hid ((Tryz.prog.info? 76).map (·.size) = some 11) := Lib.hid (by kernel_rfl)
 have HTt : RowKit.Hid ((Tryz.prog.info? 37).map (·.size) = some 5) := Lib.hid (by kernel_rfl)
 have hyl := tellY_length xs hr.2.2.2.2.1
 obtain ⟨W0, hW0⟩ : ∃ W, w.alloc (.cells #[.int .u32 0, .int .u32 0, .int .i64 0, .int .i64 0, .int .i64 0] 37) = W := ⟨_, rfl⟩
 have t0 : Touch w W0 (fun _ => False) := hW0 ▸ (Touch.refl _ _).alloc _
 have hs0 : W0.heap.size = w.heap.size + 1 := by rw [← hW0]; simp
 obtain ⟨W1, hW1⟩ : ∃ W, W0.alloc (.cells #[.int .i64 0, .int .i64 0, .int .i64 0, .int .i64 0, .int .i64 0, .int .i64 0, .int .i64 0, .int .i64 0, .int .i64 0, .int .u32 0, .int .u32 0] 76) = W := ⟨_, rfl⟩
 have t1 : Touch W0 W1 (fun _ => False) := hW1 ▸ (Touch.refl _ _).alloc _
 have T1 := t0.trans t1 (fun _ _ h => h)
 have h0 : W1.heap[w.heap.size]? = some _ := t1.keeps (hW0 ▸ heap_alloc_new w _) (fun h => h)
 have h1 : W1.heap[W0.heap.size]? = some _ := hW1 ▸ heap_alloc_new W0 _
 have H := Lib.hid (rparse_is a len cap xs W1 (hr.touch T1 (fun _ _ => .inr (fun h => h))) hlen)
 have hT : tellT xs = if whyT xs = 0 then ⟨(tellH xs).src, (tellH xs).dst, (tellH xs).proto, gb (tellY xs) 0 * 256 + gb (tellY xs) 1, gb (tellY xs) 2 * 256 + gb (tellY xs) 3⟩ else tup0 := rfl
 have hG : tellG xs = if whyT xs = 0 then tellH xs else hdr0 := rfl
 have hWt : whyT xs = if whyF xs = 0 then refF (tellH xs).flags (tellH xs).off (tellH xs).proto (tellY xs) else whyF xs := rfl
 generalize tellH xs = h at *
 generalize tellY xs = ys at *
 generalize whyF xs = y at *
 generalize tellT xs = T at *
 generalize tellG xs = G at *
 generalize whyT xs = Y at *
 have HT := Lib.hid hT
 have HG := Lib.hid hG
 have HY := Lib.hid hWt
 have HA := Lib.hid h0
 have HB := Lib.hid h1
 have TT := Lib.hid T1
 have HS0 := Lib.hid hs0
 clear hr t0 t1 h0 h1 T1 hT hG hWt hs0
 by_cases hy : y = 0
 ·have hy' : ((y : Int) == 0) = true := beq_iff_eq.2 (by omega)
  have hyn : ((y : Int) != 0) = false := by simp [hy]
  have HE : RowKit.Hid (Y = refF h.flags h.off h.proto ys) := Lib.hid (by rw [HY.out, if_pos hy])
  go_enter Tryz.func30, Tryz.ntmps30
  go_wp2_with fail
  (with_reducible refine H.out.mono ?_)
  rintro e w2 ⟨a2, c2, rfl, hr2, t2, hb2⟩
  have HBB := Lib.hid hb2
  have TT := Lib.hid (TT.out.trans t2 (fun _ _ h => h))
  have HA := Lib.hid (t2.keeps HA.out (fun h => h))
  have HB := Lib.hid (t2.keeps HB.out (fun h => h))
  have HBW := Lib.hid hr2.lt
  obtain ⟨W3, hW3⟩ : ∃ W, w2.alloc (.cells (hcs h) 76) = W := ⟨_, rfl⟩
  obtain ⟨B, hBe⟩ : ∃ B, w2.heap.size = B := ⟨_, rfl⟩
  have t3 : Touch w2 W3 (fun _ => False) := hW3 ▸ (Touch.refl w2 (fun _ => False)).alloc _
  have hc : W3.heap[B]? = some (.cells (hcs h) 76 (0, 0)) := hBe ▸ hW3 ▸ heap_alloc_new w2 _
  have HC := Lib.hid hc
  have hs1 := HS0.out
  have hlA := heap_lt HA.out
  have hlB := heap_lt HB.out
  have HN : RowKit.Hid (w.heap.size < B ∧ W0.heap.size < B) := Lib.hid (by omega)
  have HW1S : RowKit.Hid (W1.heap.size = W0.heap.size + 1) := Lib.hid (by rw [← hW1]; simp)
  have HBE := Lib.hid hBe
  have TT := Lib.hid (TT.out.trans t3 (fun _ _ h => h))
  have HA := Lib.hid (t3.keeps HA.out (fun h => h))
  have HB := Lib.hid (t3.keeps HB.out (fun h => h))
  have HR := Lib.hid (hr2.touch t3 (fun _ _ => .inr (fun h => h)))
  have HW3 := Lib.hid hW3
  clear t2 t3 hW1 hW0 H hr2 hlA hlB hs1 hc hb2 hW3
  simp only [hv, hcs] at HW3 ⊢
  have hysm := HR.out.2.2.2.2.1
  go_upto_region 4 with fail
  rw [HW3.out]
  obtain ⟨c0, c1, c2', c3, c4, c5, c6, c7, c8, c9, c10⟩ := hcells_of HC.out
  have h8 := @ref_eight h.flags h.off h.proto ys
  go_upto_block 0 with fail
  go_cut [8] (fun s8 wx => s8 = .int .i64 (refF h.flags h.off h.proto ys : Nat) ∧ Touch W3 wx (fun _ => False))
  case first =>
   have hw : refF h.flags h.off h.proto ys = if wholeB h.flags h.off = false then 6 else if h.proto ≠ 6 ∧ h.proto ≠ 17 then 8 else if h.proto = 6 ∧ tcpB ys = false then 9 else if h.proto = 17 ∧ udpB ys = false then 9 else 0 := rfl
   generalize refF h.flags h.off h.proto ys = r at *
   have HWH := Lib.hid (fun W => rwhole_any' h.ihl h.tos h.len h.id h.flags h.off h.ttl h.proto h.sum h.src h.dst W)
   generalize wholeB h.flags h.off = wb at *
   clear h8
   cases wb with
   | false =>
     rw [if_pos rfl] at hw
     subst hw
     go_wp2_with (go_at_call 67; (with_reducible refine (HWH.out _).mono ?_); rintro e w9 ⟨rfl, t9⟩; obtain ⟨c0, c1, c2', c3, c4, c5, c6, c7, c8, c9, c10⟩ := hcells_of (t9.keeps HC.out (fun h => h)))
     go_meet
     exact ⟨rfl, t9⟩
   | true =>
     rw [if_neg (by decide)] at hw
     by_cases hp6 : h.proto = 6
     ·have p1 : ((h.proto : Int) == 6) = true := beq_iff_eq.2 (by omega)
      have p2 : ((h.proto : Int) != 6) = false := by rw [bne_eq_false_iff_eq]; omega
      have p3 : ((h.proto : Int) == 17) = false := beq_eq_false_iff_ne.2 (by omega)
      rw [if_neg (by omega)] at hw
      have hnp : ¬ h.proto = 17 := by omega
      simp only [hp6, true_and] at hw
      rw [show (if (6 : Nat) = 17 ∧ udpB ys = false then 9 else 0) = 0 from by simp] at hw
      clear hp6
      by_cases hl : ys.length < 20
      ·have hl' : (ys.length : Int) < 20 := by omega
       have : tcpB ys = false := by unfold tcpB; rw [if_pos hl]
       rw [if_pos this] at hw
       subst hw
       clear this
       go_wp2_with (go_at_call 67; (with_reducible refine (HWH.out _).mono ?_); rintro e w9 ⟨rfl, t9⟩; obtain ⟨c0, c1, c2', c3, c4, c5, c6, c7, c8, c9, c10⟩ := hcells_of (t9.keeps HC.out (fun h => h)))
       go_meet
       exact ⟨rfl, t9⟩
      ·have hl' : ¬ (ys.length : Int) < 20 := by omega
       obtain ⟨b, off, rfl⟩ := HR.out.some (by omega)
       have b12 := gb_lt ys hysm 12
       have i12 : (12 : Int) < ys.length := by omega
       by_cases h5 : gb ys 12 / 16 < 5
       ·have h5' : (gb ys 12 : Int) / 16 < 5 := by omega
        have : tcpB ys = false := by unfold tcpB; rw [if_neg hl, if_pos h5]
        rw [if_pos this] at hw
        subst hw
        clear this
        go_wp2_with (go_at_call 67; (with_reducible refine (HWH.out _).mono ?_); rintro e w9 ⟨rfl, t9⟩; obtain ⟨c0, c1, c2', c3, c4, c5, c6, c7, c8, c9, c10⟩ := hcells_of (t9.keeps HC.out (fun h => h)); have hrw := HR.out.touch t9 (fun _ _ => .inr (fun h => h)); have x12 := hrw.gb 12 (by omega); clear hrw)
        go_meet
        exact ⟨rfl, t9⟩
       ·have h5' : ¬ (gb ys 12 : Int) / 16 < 5 := by omega
        by_cases h4 : 4 * (gb ys 12 / 16) ≤ ys.length
        ·have h4' : ¬ (ys.length : Int) < 4 * ((gb ys 12 : Int) / 16) := by omega
         have : tcpB ys = true := by unfold tcpB; rw [if_neg hl, if_neg h5]; simpa using h4
         rw [if_neg (by simp [this])] at hw
         subst hw
         clear this
         go_wp2_with (go_at_call 67; (with_reducible refine (HWH.out _).mono ?_); rintro e w9 ⟨rfl, t9⟩; obtain ⟨c0, c1, c2', c3, c4, c5, c6, c7, c8, c9, c10⟩ := hcells_of (t9.keeps HC.out (fun h => h)); have hrw := HR.out.touch t9 (fun _ _ => .inr (fun h => h)); have x12 := hrw.gb 12 (by omega); clear hrw)
         go_quiet (fail)
         go_wp2_with fail
         go_meet
         exact ⟨rfl, t9.drewN nq⟩
        ·have h4' : (ys.length : Int) < 4 * ((gb ys 12 : Int) / 16) := by omega
         have : tcpB ys = false := by unfold tcpB; rw [if_neg hl, if_neg h5]; simpa using h4
         rw [if_pos this] at hw
         subst hw
         clear this
         go_wp2_with (go_at_call 67; (with_reducible refine (HWH.out _).mono ?_); rintro e w9 ⟨rfl, t9⟩; obtain ⟨c0, c1, c2', c3, c4, c5, c6, c7, c8, c9, c10⟩ := hcells_of (t9.keeps HC.out (fun h => h)); have hrw := HR.out.touch t9 (fun _ _ => .inr (fun h => h)); have x12 := hrw.gb 12 (by omega); clear hrw)
         go_meet
         exact ⟨rfl, t9⟩
     ·have p1 : ((h.proto : Int) == 6) = false := beq_eq_false_iff_ne.2 (by omega)
      have p2 : ((h.proto : Int) != 6) = true := bne_iff_ne.2 (by omega)
      by_cases hp17 : h.proto = 17
      ·have p3 : ((h.proto : Int) == 17) = true := beq_iff_eq.2 (by omega)
       have p4 : ((h.proto : Int) != 17) = false := by rw [bne_eq_false_iff_eq]; omega
       rw [if_neg (by omega), if_neg (by omega)] at hw
       simp only [hp17, true_and] at hw
       clear hp17 hp6
       by_cases hl : ys.length < 8
       ·have hl' : (ys.length : Int) < 8 := by omega
        have : udpB ys = false := by unfold udpB; rw [if_pos hl]
        rw [if_pos this] at hw
        subst hw
        clear this
        go_wp2_with (go_at_call 67; (with_reducible refine (HWH.out _).mono ?_); rintro e w9 ⟨rfl, t9⟩; obtain ⟨c0, c1, c2', c3, c4, c5, c6, c7, c8, c9, c10⟩ := hcells_of (t9.keeps HC.out (fun h => h)))
        go_quiet (fail)
        go_wp2_with fail
        go_meet
        exact ⟨rfl, t9.drewN nq⟩
       ·have hl' : ¬ (ys.length : Int) < 8 := by omega
        obtain ⟨b, off, rfl⟩ := HR.out.some (by omega)
        have b4 := gb_lt ys hysm 4
        have b5 := gb_lt ys hysm 5
        have i4 : (4 : Int) < ys.length := by omega
        have i5 : (5 : Int) < ys.length := by omega
        have oab : bits BinOp.or IntKind.i64 ((gb ys 4 : Int) * 256) (gb ys 5 : Int) = (gb ys 4 : Int) * 256 + gb ys 5 := or_i64 _ _ 8 (by omega) (by omega) (by omega) (by omega) (by omega) (by omega)
        obtain ⟨V, hV⟩ : ∃ V, (gb ys 4 : Int) * 256 + gb ys 5 = V := ⟨_, rfl⟩
        have HV := Lib.hid hV
        by_cases h5 : gb ys 4 * 256 + gb ys 5 < 8
        ·have h5' : V < 8 := by omega
         have : udpB ys = false := by unfold udpB; rw [if_neg hl, if_pos h5]
         rw [if_pos this] at hw
         subst hw
         clear this
         go_wp2_with (go_at_call 67; (with_reducible refine (HWH.out _).mono ?_); rintro e w9 ⟨rfl, t9⟩; obtain ⟨c0, c1, c2', c3, c4, c5, c6, c7, c8, c9, c10⟩ := hcells_of (t9.keeps HC.out (fun h => h)); have hrw := HR.out.touch t9 (fun _ _ => .inr (fun h => h)); have x4 := hrw.gb 4 (by omega); have x5 := hrw.gb 5 (by omega); clear hrw)
         have hraw : bits BinOp.or IntKind.i64 ((gb ys 4 : Int) * 256) (gb ys 5 : Int) = V := oab.trans HV.out
         clear oab
         have y7 := fun d os => cell_regrown c7 d os
         have y4 := fun d os => cell_regrown x4 d os
         have y5 := fun d os => cell_regrown x5 d os
         have d8 : decide ((ys.length : Int) < 8) = false := decide_eq_false (by omega)
         have d5 : decide (V < 8) = true := decide_eq_true (by omega)
         refine wp_region_quiet_below (by kernel_rfl) (by kernel_rfl) ?_
         repeat (go_big_quiet_step (fail))
         refine wpQuiet_nil ?_
         intro _ hw'
         obtain ⟨⟨dq, osq⟩, hw''⟩ := hw'
         subst hw''
         clear hraw y4 y5 y7
         go_wp2_with fail
         go_meet
         exact ⟨rfl, t9.trans (Touch.ofBelow (S := fun _ => False) (below_regrown _ dq osq) (fun k h1 h2 => by omega)) (fun _ _ h => h)⟩
        ·have h5' : ¬ V < 8 := by omega
         by_cases h4 : gb ys 4 * 256 + gb ys 5 ≤ ys.length
         ·have h4' : ¬ (ys.length : Int) < V := by omega
          have : udpB ys = true := by unfold udpB; rw [if_neg hl, if_neg h5]; simpa using h4
          rw [if_neg (by simp [this])] at hw
          subst hw
          clear this hV h5 h4
          go_wp2_with (go_at_call 67; (with_reducible refine (HWH.out _).mono ?_); rintro e w9 ⟨rfl, t9⟩; obtain ⟨c0, c1, c2', c3, c4, c5, c6, c7, c8, c9, c10⟩ := hcells_of (t9.keeps HC.out (fun h => h)); have hrw := HR.out.touch t9 (fun _ _ => .inr (fun h => h)); have x4 := hrw.gb 4 (by omega); have x5 := hrw.gb 5 (by omega); clear hrw)
          have hraw : bits BinOp.or IntKind.i64 ((gb ys 4 : Int) * 256) (gb ys 5 : Int) = V := oab.trans HV.out
          clear oab
          have y7 := fun d os => cell_regrown c7 d os
          have y4 := fun d os => cell_regrown x4 d os
          have y5 := fun d os => cell_regrown x5 d os
          have d8 : decide ((ys.length : Int) < 8) = false := decide_eq_false (by omega)
          have d5 : decide (V < 8) = false := decide_eq_false (by omega); have d4 : decide (((ys.length : Nat) : Int) < V) = false := decide_eq_false (by omega)
          refine wp_region_quiet_below (by kernel_rfl) (by kernel_rfl) ?_
          repeat (go_big_quiet_step (fail))
          refine wpQuiet_nil ?_
          intro _ hw'
          obtain ⟨⟨dq, osq⟩, hw''⟩ := hw'
          subst hw''
          clear hraw y4 y5 y7
          go_wp2_with fail
          go_meet
          exact ⟨rfl, t9.trans (Touch.ofBelow (S := fun _ => False) (below_regrown _ dq osq) (fun k h1 h2 => by omega)) (fun _ _ h => h)⟩
         ·have h4' : (ys.length : Int) < V := by omega
          have : udpB ys = false := by unfold udpB; rw [if_neg hl, if_neg h5]; simpa using h4
          rw [if_pos this] at hw
          subst hw
          clear this hV h5 h4
          go_wp2_with (go_at_call 67; (with_reducible refine (HWH.out _).mono ?_); rintro e w9 ⟨rfl, t9⟩; obtain ⟨c0, c1, c2', c3, c4, c5, c6, c7, c8, c9, c10⟩ := hcells_of (t9.keeps HC.out (fun h => h)); have hrw := HR.out.touch t9 (fun _ _ => .inr (fun h => h)); have x4 := hrw.gb 4 (by omega); have x5 := hrw.gb 5 (by omega); clear hrw)
          have hraw : bits BinOp.or IntKind.i64 ((gb ys 4 : Int) * 256) (gb ys 5 : Int) = V := oab.trans HV.out
          clear oab
          have y7 := fun d os => cell_regrown c7 d os
          have y4 := fun d os => cell_regrown x4 d os
          have y5 := fun d os => cell_regrown x5 d os
          have d8 : decide ((ys.length : Int) < 8) = false := decide_eq_false (by omega)
          have d5 : decide (V < 8) = false := decide_eq_false (by omega); have d4 : decide (((ys.length : Nat) : Int) < V) = true := decide_eq_true (by omega)
          refine wp_region_quiet_below (by kernel_rfl) (by kernel_rfl) ?_
          repeat (go_big_quiet_step (fail))
          refine wpQuiet_nil ?_
          intro _ hw'
          obtain ⟨⟨dq, osq⟩, hw''⟩ := hw'
          subst hw''
          clear hraw y4 y5 y7
          go_wp2_with fail
          go_meet
          exact ⟨rfl, t9.trans (Touch.ofBelow (S := fun _ => False) (below_regrown _ dq osq) (fun k h1 h2 => by omega)) (fun _ _ h => h)⟩
      ·have p4 : ((h.proto : Int) != 17) = true := bne_iff_ne.2 (by omega)
       rw [if_pos ⟨hp6, hp17⟩] at hw
       subst hw
       clear hp6 hp17
       go_wp2_with (go_at_call 67; (with_reducible refine (HWH.out _).mono ?_); rintro e w9 ⟨rfl, t9⟩; obtain ⟨c0, c1, c2', c3, c4, c5, c6, c7, c8, c9, c10⟩ := hcells_of (t9.keeps HC.out (fun h => h)))
       go_meet
       exact ⟨rfl, t9⟩
  case rest =>
   obtain ⟨rfl, t4⟩ := hcut
   have TT := Lib.hid (TT.out.trans t4 (fun _ _ h => h))
   have HA := Lib.hid (t4.keeps HA.out (fun h => h))
   have HB := Lib.hid (t4.keeps HB.out (fun h => h))
   have HC := Lib.hid (t4.keeps HC.out (fun h => h))
   have HR := Lib.hid (HR.out.touch t4 (fun _ _ => .inr (fun h => h)))
   clear t4 c0 c1 c2' c3 c4 c5 c6 c7 c8 c9 c10
   generalize refF h.flags h.off h.proto ys = r at *
   by_cases hz : r = 0
   ·have hz' : ((r : Int) != 0) = false := by simp [hz]
    have h8 := h8 hz
    obtain ⟨b, off, rfl⟩ := HR.out.some (by omega)
    have hbg := HBB.out _ rfl
    have hbl : b < B := by
     rcases HBW.out _ rfl with h0 | h0
     ·omega
     ·have : b < w2.heap.size := h0; omega
    have hs1 := HS0.out
    have hw1 := HW1S.out
    have hN := HN.out
    have hbA : ¬ (b = w.heap.size) := by have : W1.heap.size ≤ b := hbg; omega
    have hbB : ¬ (b = W0.heap.size) := by have : W1.heap.size ≤ b := hbg; omega
    have hBA : ¬ (B = w.heap.size) := by omega
    have hBB : ¬ (B = W0.heap.size) := by omega
    have hne0 : ¬ (W0.heap.size = w.heap.size) := by omega
    have hne1 : ¬ (w.heap.size = W0.heap.size) := by omega
    clear HBB HBW hbg hbl hs1 hw1
    obtain ⟨c0, c1, c2', c3, c4, c5, c6, c7, c8, c9, c10⟩ := hcells_of HC.out
    obtain ⟨r0, r1, r2, r3, r4, r5, r6, r7, r8, r9, r10⟩ := hcells_of (h := hdr0) HB.out
    have fB := free_of_cells HB.out
    have fA := free_of_cells HA.out
    have q0 := cell_of_cells HA.out 0
    have q1 := cell_of_cells HA.out 1
    have q2 := cell_of_cells HA.out 2
    have q3 := cell_of_cells HA.out 3
    have q4 := cell_of_cells HA.out 4
    simp at q0 q1 q2 q3 q4
    have x0 := HR.out.gb 0 (by omega)
    have x1 := HR.out.gb 1 (by omega)
    have x2 := HR.out.gb 2 (by omega)
    have x3 := HR.out.gb 3 (by omega)
    have b0 := gb_lt ys hysm 0
    have b1 := gb_lt ys hysm 1
    have b2 := gb_lt ys hysm 2
    have b3 := gb_lt ys hysm 3
    have j0 : 0 < ys.length := by omega
    have j1 : (1 : Int) < ys.length := by omega
    have j2 : (2 : Int) < ys.length := by omega
    have j3 : (3 : Int) < ys.length := by omega
    have o01 : bits BinOp.or IntKind.i64 ((gb ys 0 : Int) * 256) (gb ys 1 : Int) = (gb ys 0 : Int) * 256 + gb ys 1 := or_i64 _ _ 8 (by omega) (by omega) (by omega) (by omega) (by omega) (by omega)
    have o23 : bits BinOp.or IntKind.i64 ((gb ys 2 : Int) * 256) (gb ys 3 : Int) = (gb ys 2 : Int) * 256 + gb ys 3 := or_i64 _ _ 8 (by omega) (by omega) (by omega) (by omega) (by omega) (by omega)
    go_wp2_with fail
    have w0 : IntKind.i64.wrap (gb ys 0 : Int) = (gb ys 0 : Int) := IntWalk.i64_in _ (by omega)
    have w1 : IntKind.i64.wrap (gb ys 1 : Int) = (gb ys 1 : Int) := IntWalk.i64_in _ (by omega)
    have w2'' : IntKind.i64.wrap (gb ys 2 : Int) = (gb ys 2 : Int) := IntWalk.i64_in _ (by omega)
    have w3 : IntKind.i64.wrap (gb ys 3 : Int) = (gb ys 3 : Int) := IntWalk.i64_in _ (by omega)
    have w4 : IntKind.i64.wrap ((gb ys 0 : Int) * 256) = (gb ys 0 : Int) * 256 := IntWalk.i64_in _ (by omega)
    have w5 : IntKind.i64.wrap ((gb ys 2 : Int) * 256) = (gb ys 2 : Int) * 256 := IntWalk.i64_in _ (by omega)
    have HA0 := HA
    have HB0 := HB
    have HC0 := HC
    have HR0 := HR
    have TT0 := TT
    have t6 := (Touch.refl wc (fun _ => False)).drew
    have HA := Lib.hid (t6.keeps HA.out (fun h => h))
    have HB := Lib.hid (t6.keeps HB.out (fun h => h))
    have HC := Lib.hid (t6.keeps HC.out (fun h => h))
    have TT := Lib.hid (TT.out.trans t6 (fun _ _ h => h))
    have HR := Lib.hid (HR.out.touch t6 (fun _ _ => .inr (fun h => h)))
    clear t6
    go_region_held3 (fun w' => w'.cell? ⟨B, 0, none⟩ = some (.int .i64 (h.ihl : Nat)) ∧ w'.cell? ⟨B, 1, none⟩ = some (.int .i64 (h.tos : Nat)) ∧ w'.cell? ⟨B, 2, none⟩ = some (.int .i64 (h.len : Nat)) ∧ w'.cell? ⟨B, 3, none⟩ = some (.int .i64 (h.id : Nat)) ∧ w'.cell? ⟨B, 4, none⟩ = some (.int .i64 (h.flags : Nat)) ∧ w'.cell? ⟨B, 5, none⟩ = some (.int .i64 (h.off : Nat)) ∧ w'.cell? ⟨B, 6, none⟩ = some (.int .i64 (h.ttl : Nat)) ∧ w'.cell? ⟨B, 7, none⟩ = some (.int .i64 (h.proto : Nat)) ∧ w'.cell? ⟨B, 8, none⟩ = some (.int .i64 (h.sum : Nat)) ∧ w'.cell? ⟨B, 9, none⟩ = some (.int .u32 (h.src : Nat)) ∧ w'.cell? ⟨B, 10, none⟩ = some (.int .u32 (h.dst : Nat)) ∧
     w'.cell? ⟨b, off, none⟩ = some (.int .u8 (gb ys 0 : Nat)) ∧ w'.cell? ⟨b, off + 1, none⟩ = some (.int .u8 (gb ys 1 : Nat)) ∧ w'.cell? ⟨b, off + 2, none⟩ = some (.int .u8 (gb ys 2 : Nat)) ∧ w'.cell? ⟨b, off + 3, none⟩ = some (.int .u8 (gb ys 3 : Nat)))
     (first
      | (with_reducible exact scells_of HC.out HR.out h8)
      | (with_reducible exact scells_of (((touchT _ _ _ _ _ _ _).drew).keeps HC0.out hBA) (HR0.out.touch ((touchT _ _ _ _ _ _ _).drew) (fun x hx => by cases hx; exact .inr hbA)) h8)
      | (with_reducible exact scells_of (((touchH _ _ _ _ _ _ _ _ _ _ _ _ _).drew).keeps ((touchT _ _ _ _ _ _ _).keeps HC0.out hBA) hBB) ((HR0.out.touch (touchT _ _ _ _ _ _ _) (fun x hx => by cases hx; exact .inr hbA)).touch ((touchH _ _ _ _ _ _ _ _ _ _ _ _ _).drew) (fun x hx => by cases hx; exact .inr hbB)) h8)
      | go_keep) (fail)
    all_goals (
     clear w0 w1 w2'' w3 w4 w5 o01 o23 x0 x1 x2 x3 b0 b1 b2 b3 j0 j1 j2 j3
     go_wp2_with fail
     refine ret_rows1 (by rfl) (by rfl) w.heap.size _ _ _ _ (by rfl) (by with_reducible exact drew_row ((touchH _ _ _ _ _ _ _ _ _ _ _ _ _).keeps (cellsT HA0.out _ _ _ _ _) hne1)) Tryz.underlying37 rfl (by exact infoT) W0.heap.size _ _ _ _ (by rfl) (by with_reducible exact drew_row (cellsH ((touchT _ _ _ _ _ _ _).keeps HB0.out hne0) _ _ _ _ _ _ _ _ _ _ _)) Tryz.underlying76 rfl (by exact infoH) _ (by rfl) ?_
     refine ⟨?_, ((TT0.out.trans (touchT _ _ _ _ _ _ _) (fun k hk h => by subst h; omega)).trans (touchH _ _ _ _ _ _ _ _ _ _ _ _ _) (fun k hk h => by subst h; have := HS0.out; omega)).drew⟩
     rw [HT.out, HG.out, HE.out, if_pos hz, if_pos hz]
     simp [tv, tcsP, hv, hz])
   ·have hz' : ((r : Int) != 0) = true := bne_iff_ne.2 (by omega)
    go_wp2_with (first
     | (refine store_row rfl 37 (.tmp 2) (.tmp 99) rfl w.heap.size _ rfl rfl _ _ HA.out HTt.out rfl rfl ?_)
     | (refine store_row rfl 76 (.tmp 3) (.tmp 100) rfl W0.heap.size _ rfl rfl _ _ ((setRow_other _ _ _ _ (by have := HS0.out; omega)).trans HB.out) HTy.out rfl rfl ?_))
    refine ret_rows1 rfl rfl w.heap.size ?t ?cs ?fr _ rfl ?hg Tryz.underlying37 rfl ?hi W0.heap.size ?t2 ?cs2 ?fr2 _ rfl ?hg2 Tryz.underlying76 rfl ?hi2 _ rfl ?hR
    case hg => refine (setRow_other _ _ _ _ (by have := HS0.out; omega)).trans ?_; exact setRow_heap _ _ _ _ _ _ HA.out
    case hi => exact HTt.out
    case hg2 =>
     have q : (wc.setRow w.heap.size #[.int .u32 0, .int .u32 0, .int .i64 0, .int .i64 0, .int .i64 0]).heap[W0.heap.size]? = some _ := (setRow_other _ _ _ _ (by have := HS0.out; omega)).trans HB.out
     exact setRow_heap _ _ _ _ _ _ q
    case hi2 => exact HTy.out
    case hR =>
     refine ⟨?_, (TT.out.setRow _ _ (fun h => absurd h (by omega))).setRow _ _ (fun h => absurd h (by have := HS0.out; omega))⟩
     rw [HT.out, HG.out, HE.out, if_neg hz, if_neg hz]
     simp [tv, tcsP, tup0, hv, hdr0]
 ·have hy' : ((y : Int) == 0) = false := beq_eq_false_iff_ne.2 (by omega)
  have hy2 : ((y : Int) != 0) = true := bne_iff_ne.2 (by omega)
  have HE : RowKit.Hid (Y = y) := Lib.hid (by rw [HY.out, if_neg hy])
  go_enter Tryz.func30, Tryz.ntmps30
  go_wp2_with fail
  (with_reducible refine H.out.mono ?_)
  rintro e w2 ⟨a2, c2, rfl, hr2, t2, hb2⟩
  have TT := Lib.hid (TT.out.trans t2 (fun _ _ h => h))
  have HA := Lib.hid (t2.keeps HA.out (fun h => h))
  have HB := Lib.hid (t2.keeps HB.out (fun h => h))
  obtain ⟨W3, hW3⟩ : ∃ W, w2.alloc (.cells (hcs h) 76) = W := ⟨_, rfl⟩
  have t3 : Touch w2 W3 (fun _ => False) := hW3 ▸ (Touch.refl w2 (fun _ => False)).alloc _
  have TT := Lib.hid (TT.out.trans t3 (fun _ _ h => h))
  have HA := Lib.hid (t3.keeps HA.out (fun h => h))
  have HB := Lib.hid (t3.keeps HB.out (fun h => h))
  clear t2 t3 hW1 hW0 H hr2
  simp only [hv, hcs] at hW3 ⊢
  go_wp2_with (first
   | (refine store_row rfl 37 (.tmp 2) (.tmp 17) rfl w.heap.size _ rfl rfl _ _ HA.out HTt.out rfl rfl ?_)
   | (refine store_row rfl 76 (.tmp 3) (.tmp 18) rfl W0.heap.size _ rfl rfl _ _ ((setRow_other _ _ _ _ (by have := HS0.out; omega)).trans HB.out) HTy.out rfl rfl ?_))
  refine ret_rows1 rfl rfl w.heap.size ?t ?cs ?fr _ rfl ?hg Tryz.underlying37 rfl ?hi W0.heap.size ?t2 ?cs2 ?fr2 _ rfl ?hg2 Tryz.underlying76 rfl ?hi2 _ rfl ?hR
  case hg => refine (setRow_other _ _ _ _ (by have := HS0.out; omega)).trans ?_; exact setRow_heap _ _ _ _ _ _ HA.out
  case hi => exact HTt.out
  case hg2 =>
   have q : (W3.setRow w.heap.size #[.int .u32 0, .int .u32 0, .int .i64 0, .int .i64 0, .int .i64 0]).heap[W0.heap.size]? = some _ := (setRow_other _ _ _ _ (by have := HS0.out; omega)).trans HB.out
   exact setRow_heap _ _ _ _ _ _ q
  case hi2 => exact HTy.out
  case hR =>
   refine ⟨?_, (TT.out.setRow _ _ (fun h => absurd h (by omega))).setRow _ _ (fun h => absurd h (by have := HS0.out; omega))⟩
   rw [HT.out, HG.out, HE.out, if_neg hy, if_neg hy]
   simp [tv, tcsP, tup0, hv, hdr0]
end Go.Proofs.YtpjdcgjoepjmcaaGreat
